/- Package dev: Write, Put: walks. -/
import Derived.Test.YtkgpcgkikenljaaDevPFlush
import Derived.Test.YtkgpcgkikenljaaDevPNew
namespace Go.Proofs.Ytkgpcgkikenljaa
namespace Sha
open Go.RowKit Mem
theorem elemRW : elemR Try.prog 60 80 zeroPut 2 32 := ⟨Try.underlying60, by kernel_rfl⟩
/-- One more waits. -/
theorem pv_wait {F D : Foot} {br bb n N : Nat} {w w2 w3 w5 w8 : World} {s : St6} {vw vs vt vw' v2 : Value} {x : List (BitVec 8)} {ws : List (Nat × Value)} (h : PV F D br bb w s vw vs vt) (he : Each2 (fun p q => p.1 = q.1 ∧ SlB D w p.2 q.2) ws s.w)
    (hb : Below w.heap.size w w2) (ho : OwnB w2 w.heap.size v2 x) (hb2 : Below w2.heap.size w2 w3) (ha : App w3 w5 vw vw') (hb5 : Below 0 w3 w5) (ho5 : w5.ownsRow 0 80 2 vw' (s.w.length + 1) (putC ws ++ [.int .i64 (n : Int), v2]))
    (hN : N = s.n) (hA : At w8 br (pRow bb N vw' vs vt) 62) (hk2 : ∀ k, k ≠ br → w8.heap[k]? = w5.heap[k]?) (hk : ∀ B a, Below B a w5 → B ≤ br → Below B a w8) :
    PV (grow F w w8) (fun k => D k ∨ v2.ownBlock = some k) br bb w8 { s with w := s.w ++ [(n, x)] } vw' vs vt ∧ Chg F w w8 := by
  obtain ⟨m2, s2⟩ := pm_data h.m h.blt hb ho
  have m3 := m2.keep hb2.size fun k _ _ hlt => hb2.block k hlt
  have hb3 : Below w.heap.size w w3 := hb.trans (hb2.mono hb.size)
  have e3 : Each2 (fun p q => p.1 = q.1 ∧ SlB (fun k => D k ∨ v2.ownBlock = some k) w3 p.2 q.2) (ws ++ [(n, v2)]) (s.w ++ [(n, x)]) :=
    Each2.snoc ⟨rfl, s2.keep hb2.size fun k _ hlt => hb2.block k hlt⟩ (he.mono fun _ _ h => ⟨h.1, (h.2.keep hb3.size fun k _ hlt => hb3.block k hlt).mono fun _ hk _ => .inl hk⟩)
  have m5 := pm_wait m3 (Nat.lt_of_lt_of_le h.blt hb3.size) ⟨_, h.row.below hb3 h.blt⟩ ha e3 (by rw [List.length_append, putC_snoc]; exact ho5)
  have c3 : Chg F w w3 := Chg.of_below hb3
  exact pv_set (s' := { s with w := s.w ++ [(n, x)] }) h hN (c3.trans (F1 := F) (ha.chg hb5 fun k e => (h.m.ow k e).1) fun k hk => .inl hk) hA hk2 hk m5 (fun k hk _ => by
    rcases hk with (hk | hk) | hk
    · exact .inl hk
    · exact .inr hk
    · exact .inr (Nat.le_trans hb3.size hk))
/-- One more lies on the shelf. -/
theorem pv_shelf {F D : Foot} {br bb N : Nat} {w w2 w3 w5 w8 : World} {s : St6} {vw vs vt vs' v2 : Value} {x : List (BitVec 8)} {hs : List Value} (h : PV F D br bb w s vw vs vt) (he : Each2 (fun p q => SlB D w p q) hs s.sh)
    (hb : Below w.heap.size w w2) (ho : OwnB w2 w.heap.size v2 x) (hb2 : Below w2.heap.size w2 w3) (ha : App w3 w5 vs vs') (hb5 : Below 0 w3 w5) (ho5 : w5.ownsRow 0 27 1 vs' (s.sh.length + 1) (hs ++ [v2]))
    (hN : N = s.n) (hA : At w8 br (pRow bb N vw vs' vt) 62) (hk2 : ∀ k, k ≠ br → w8.heap[k]? = w5.heap[k]?) (hk : ∀ B a, Below B a w5 → B ≤ br → Below B a w8) :
    PV (grow F w w8) (fun k => D k ∨ v2.ownBlock = some k) br bb w8 { s with sh := s.sh ++ [x] } vw vs' vt ∧ Chg F w w8 := by
  obtain ⟨m2, s2⟩ := pm_data h.m h.blt hb ho
  have m3 := m2.keep hb2.size fun k _ _ hlt => hb2.block k hlt
  have hb3 : Below w.heap.size w w3 := hb.trans (hb2.mono hb.size)
  have e3 : Each2 (fun p q => SlB (fun k => D k ∨ v2.ownBlock = some k) w3 p q) (hs ++ [v2]) (s.sh ++ [x]) :=
    Each2.snoc (s2.keep hb2.size fun k _ hlt => hb2.block k hlt) (he.mono fun _ _ h => (h.keep hb3.size fun k _ hlt => hb3.block k hlt).mono fun _ hk _ => .inl hk)
  have m5 := pm_shelf m3 (Nat.lt_of_lt_of_le h.blt hb3.size) ⟨_, h.row.below hb3 h.blt⟩ ha e3 (by rw [List.length_append]; exact ho5)
  have c3 : Chg F w w3 := Chg.of_below hb3
  exact pv_set (s' := { s with sh := s.sh ++ [x] }) h hN (c3.trans (F1 := F) (ha.chg hb5 fun k e => (h.m.os k e).1) fun k hk => .inl hk) hA hk2 hk m5 (fun k hk _ => by
    rcases hk with (hk | hk) | hk
    · exact .inl hk
    · exact .inr hk
    · exact .inr (Nat.le_trans hb3.size hk))
set_option maxRecDepth 100000 in
set_option maxHeartbeats 1000000 in
theorem pwrite_bad {F : Foot} {br : Nat} {s : St6} (n : Int) (x : List (BitVec 8)) (v : Value) (w : World) (hr : PSt F br w s) (hok : Ok6 1000 s) (hx : Sl w v x) (_hxl : x.length ≤ 1000000) (hbad : n < 0 ∨ (s.n : Int) ≤ n ∨ x.length ≠ 256) :
    Calls Try.prog 20 #[rq br, .int .i64 n, v] w fun e w' => e = .returned (.int .i64 1) ∧ StEnd PSt F br w s w' := by
  have hend := ps_same hr (Below.refl w.heap.size w)
  have HE := Lib.hid hend
  clear hend
  obtain ⟨D, bb, vw, vs, vt, hv⟩ := hr
  obtain ⟨ax, capx, rfl, _, _⟩ := hx
  obtain ⟨L, hL⟩ : ∃ L, L = x.length := ⟨_, rfl⟩
  rw [← hL] at _hxl hbad ⊢
  by_cases h1 : n < 0 ∨ (s.n : Int) ≤ n
  · have hck := pcheck_bad br bb s.n n vw vs vt w hv.row hok.n2 hok.n1 h1
    have CK := Lib.hid hck
    clear hck hbad h1 hok hv hL
    go_enter Try.func20, Try.ntmps20
    go_wp2_with fail
    refine CK.out.mono ?_
    rintro o w' ⟨rfl, rfl⟩
    go_wp2_with fail
    go_ret
    exact ⟨rfl, HE.out⟩
  · obtain ⟨q, rfl⟩ : ∃ q : Nat, n = (q : Int) := ⟨n.toNat, by omega⟩
    have hck := pcheck_good br bb s.n q vw vs vt w hv.row hok.n2 (by omega)
    have CK := Lib.hid hck
    have h3 : ¬ (L : Int) = 256 := by omega
    have h4 : ((L : Int) != 256) = true := by simpa using h3
    clear hck hbad h1 hok hv hL
    go_enter Try.func20, Try.ntmps20
    go_wp2_with fail
    refine CK.out.mono ?_
    rintro o w' ⟨rfl, rfl⟩
    go_wp2_with fail
    go_ret
    exact ⟨rfl, HE.out⟩
set_option maxRecDepth 100000 in
set_option maxHeartbeats 4000000 in
theorem pwrite_good {F : Foot} {br : Nat} {s : St6} (n : Nat) (x : List (BitVec 8)) (v : Value) (w : World) (hr : PSt F br w s) (hok : Ok6 1000 s) (hx : Sl w v x) (hn : n < s.n) (hxl : x.length = 256) :
    Calls Try.prog 20 #[rq br, .int .i64 (n : Int), v] w fun e w' => e = .returned (.int .i64 0) ∧ StEnd PSt F br w (stWrite s n x) w' := by
  obtain ⟨D, bb, vw, vs, vt, hv⟩ := hr
  obtain ⟨aw, capw, rfl⟩ := hv.w_hd
  have hck := pcheck_good br bb s.n n _ vs vt w hv.row hok.n2 hn
  have hm1 := hok.w
  have ht : s.t.length ≤ 1001 := Nat.le_succ_of_le hok.t
  obtain ⟨ws, he, hown⟩ := hv.m.hw
  have hne := own_ne_at hown hv.row (by decide)
  have hcl := pclone_any x v w.drew (by omega) (hx.below (Below.refl _ _).drew)
  obtain ⟨ax, capx, rfl, _, _⟩ := hx
  rw [hxl] at hcl ⊢
  obtain ⟨N, hN⟩ : ∃ N, N = s.n := ⟨_, rfl⟩
  obtain ⟨M, hM⟩ : ∃ M, M = s.w.length := ⟨_, rfl⟩
  have hrow := hv.row
  rw [← hM] at hrow hm1 hown hne hv
  rw [← hN] at hrow
  have hv2 := hv.below (Below.refl _ _).drew
  have c1 : w.drew.cell? ⟨br, 1, none⟩ = some (.slice aw M capw) := by show w.cell? _ = _; rw [hrow.cell]; rfl
  have hbld : ∀ (a2 : Option Addr) (l c : Nat) (wx : World), (Instr.build 80 #[(0, .int .i64 (n : Int)), (1, .slice a2 l c)]).run Try.prog wx = .ok (.agg (wRow n (.slice a2 l c))) wx := fun a2 l c wx => by
    unfold wRow
    go_simp
  have HV := Lib.hid hv2; have CK := Lib.hid hck; have CL := Lib.hid hcl; have HROW : Hid (At w.drew br (pRow bb N (.slice aw M capw) vs vt) 62) := hrow.drew; have HO : Hid (w.drew.ownsRow 0 80 2 (.slice aw M capw) M (putC ws)) := hown; have HE : Hid (Each2 (fun p q => p.1 = q.1 ∧ SlB D w.drew p.2 q.2) ws s.w) := he; have NE := Lib.hid hne; have C1 := Lib.hid c1; have XL := Lib.hid hxl; have HN := Lib.hid hN; have HM := Lib.hid hM; have HT := Lib.hid ht; have BLD := Lib.hid hbld
  clear hv hv2 hck hcl hrow hown he hne c1 hxl hN hM ht hbld hok
  go_enter Try.func20, Try.ntmps20
  go_wp2_with fail
  refine CK.out.mono ?_
  rintro o w' ⟨rfl, rfl⟩
  go_wp2_with fail
  refine wp_region_plan_in (fun _ => True) (.take 0 (.take 1 (.take 2 (.take 3 (.take 5 (.take 6 (.two 4 7 (.sole 7 (.take 8 (.sole 9 (.sole 10 (.take 11 (.take 12 (.sole 13 .done))))))) (.take 8 (.two 4 9 (.sole 9 (.sole 10 (.take 11 (.take 12 (.sole 13 .done))))) (.sole 4 (.sole 10 (.take 11 (.take 12 (.sole 13 .done)))))))))))))) (by kernel_rfl) (by kernel_rfl) (by kernel_rfl) trivial ?_
  (first | (refine plan_move _ _ (by rfl) (by rfl) (.inl (by rfl)) (by first | (with_reducible exact Mem.ev_const _ _) | (with_reducible exact Mem.ev_zero _ _ _) | (with_reducible (apply Eq.trans (Mem.ev_tmp _ _ _)); simp only [List.getD_cons_succ, List.getD_cons_zero] <;> rfl)) ?_) | (refine plan_move _ _ (by rfl) (by rfl) (.inr (by rfl)) (by first | (with_reducible exact Mem.ev_const _ _) | (with_reducible exact Mem.ev_zero _ _ _) | (with_reducible (apply Eq.trans (Mem.ev_tmp _ _ _)); simp only [List.getD_cons_succ, List.getD_cons_zero] <;> rfl)) ?_) | (refine plan_pick_t _ _ _ _ (by rfl) (by rfl) (by rfl) (by first | (with_reducible exact Mem.ev_const _ _) | (with_reducible exact Mem.ev_zero _ _ _) | (with_reducible (apply Eq.trans (Mem.ev_tmp _ _ _)); simp only [List.getD_cons_succ, List.getD_cons_zero] <;> rfl)) (by first | (with_reducible exact Mem.ev_const _ _) | (with_reducible exact Mem.ev_zero _ _ _) | (with_reducible (apply Eq.trans (Mem.ev_tmp _ _ _)); simp only [List.getD_cons_succ, List.getD_cons_zero] <;> rfl)) ?_) | (refine plan_pick_f _ _ _ _ (by rfl) (by rfl) (by rfl) (by first | (with_reducible exact Mem.ev_const _ _) | (with_reducible exact Mem.ev_zero _ _ _) | (with_reducible (apply Eq.trans (Mem.ev_tmp _ _ _)); simp only [List.getD_cons_succ, List.getD_cons_zero] <;> rfl)) (by first | (with_reducible exact Mem.ev_const _ _) | (with_reducible exact Mem.ev_zero _ _ _) | (with_reducible (apply Eq.trans (Mem.ev_tmp _ _ _)); simp only [List.getD_cons_succ, List.getD_cons_zero] <;> rfl)) ?_))
  (simp only [Act.put, List.setIfInBounds_toArray, List.set_cons_zero, List.set_cons_succ])
  (first | (refine plan_move _ _ (by rfl) (by rfl) (.inl (by rfl)) (by first | (with_reducible exact Mem.ev_const _ _) | (with_reducible exact Mem.ev_zero _ _ _) | (with_reducible (apply Eq.trans (Mem.ev_tmp _ _ _)); simp only [List.getD_cons_succ, List.getD_cons_zero] <;> rfl)) ?_) | (refine plan_move _ _ (by rfl) (by rfl) (.inr (by rfl)) (by first | (with_reducible exact Mem.ev_const _ _) | (with_reducible exact Mem.ev_zero _ _ _) | (with_reducible (apply Eq.trans (Mem.ev_tmp _ _ _)); simp only [List.getD_cons_succ, List.getD_cons_zero] <;> rfl)) ?_) | (refine plan_pick_t _ _ _ _ (by rfl) (by rfl) (by rfl) (by first | (with_reducible exact Mem.ev_const _ _) | (with_reducible exact Mem.ev_zero _ _ _) | (with_reducible (apply Eq.trans (Mem.ev_tmp _ _ _)); simp only [List.getD_cons_succ, List.getD_cons_zero] <;> rfl)) (by first | (with_reducible exact Mem.ev_const _ _) | (with_reducible exact Mem.ev_zero _ _ _) | (with_reducible (apply Eq.trans (Mem.ev_tmp _ _ _)); simp only [List.getD_cons_succ, List.getD_cons_zero] <;> rfl)) ?_) | (refine plan_pick_f _ _ _ _ (by rfl) (by rfl) (by rfl) (by first | (with_reducible exact Mem.ev_const _ _) | (with_reducible exact Mem.ev_zero _ _ _) | (with_reducible (apply Eq.trans (Mem.ev_tmp _ _ _)); simp only [List.getD_cons_succ, List.getD_cons_zero] <;> rfl)) (by first | (with_reducible exact Mem.ev_const _ _) | (with_reducible exact Mem.ev_zero _ _ _) | (with_reducible (apply Eq.trans (Mem.ev_tmp _ _ _)); simp only [List.getD_cons_succ, List.getD_cons_zero] <;> rfl)) ?_))
  (simp only [Act.put, List.setIfInBounds_toArray, List.set_cons_zero, List.set_cons_succ])
  refine plan_nilcheck _ ⟨br, 0, none⟩ (by rfl) (by rfl) (by rfl) (by first | (with_reducible exact Mem.ev_const _ _) | (with_reducible exact Mem.ev_zero _ _ _) | (with_reducible (apply Eq.trans (Mem.ev_tmp _ _ _)); simp only [List.getD_cons_succ, List.getD_cons_zero] <;> rfl)) ?_
  (simp only [Act.put, List.setIfInBounds_toArray, List.set_cons_zero, List.set_cons_succ])
  refine plan_field 62 _ 1 br 0 ⟨br, 1, none⟩ (by rfl) (by rfl) (by rfl) (by first | (with_reducible exact Mem.ev_const _ _) | (with_reducible exact Mem.ev_zero _ _ _) | (with_reducible (apply Eq.trans (Mem.ev_tmp _ _ _)); simp only [List.getD_cons_succ, List.getD_cons_zero] <;> rfl)) (fun wx => by go_simp) ?_
  (simp only [Act.put, List.setIfInBounds_toArray, List.set_cons_zero, List.set_cons_succ])
  (first | (refine plan_move _ _ (by rfl) (by rfl) (.inl (by rfl)) (by first | (with_reducible exact Mem.ev_const _ _) | (with_reducible exact Mem.ev_zero _ _ _) | (with_reducible (apply Eq.trans (Mem.ev_tmp _ _ _)); simp only [List.getD_cons_succ, List.getD_cons_zero] <;> rfl)) ?_) | (refine plan_move _ _ (by rfl) (by rfl) (.inr (by rfl)) (by first | (with_reducible exact Mem.ev_const _ _) | (with_reducible exact Mem.ev_zero _ _ _) | (with_reducible (apply Eq.trans (Mem.ev_tmp _ _ _)); simp only [List.getD_cons_succ, List.getD_cons_zero] <;> rfl)) ?_) | (refine plan_pick_t _ _ _ _ (by rfl) (by rfl) (by rfl) (by first | (with_reducible exact Mem.ev_const _ _) | (with_reducible exact Mem.ev_zero _ _ _) | (with_reducible (apply Eq.trans (Mem.ev_tmp _ _ _)); simp only [List.getD_cons_succ, List.getD_cons_zero] <;> rfl)) (by first | (with_reducible exact Mem.ev_const _ _) | (with_reducible exact Mem.ev_zero _ _ _) | (with_reducible (apply Eq.trans (Mem.ev_tmp _ _ _)); simp only [List.getD_cons_succ, List.getD_cons_zero] <;> rfl)) ?_) | (refine plan_pick_f _ _ _ _ (by rfl) (by rfl) (by rfl) (by first | (with_reducible exact Mem.ev_const _ _) | (with_reducible exact Mem.ev_zero _ _ _) | (with_reducible (apply Eq.trans (Mem.ev_tmp _ _ _)); simp only [List.getD_cons_succ, List.getD_cons_zero] <;> rfl)) (by first | (with_reducible exact Mem.ev_const _ _) | (with_reducible exact Mem.ev_zero _ _ _) | (with_reducible (apply Eq.trans (Mem.ev_tmp _ _ _)); simp only [List.getD_cons_succ, List.getD_cons_zero] <;> rfl)) ?_))
  (simp only [Act.put, List.setIfInBounds_toArray, List.set_cons_zero, List.set_cons_succ])
  (first | (refine plan_move _ _ (by rfl) (by rfl) (.inl (by rfl)) (by first | (with_reducible exact Mem.ev_const _ _) | (with_reducible exact Mem.ev_zero _ _ _) | (with_reducible (apply Eq.trans (Mem.ev_tmp _ _ _)); simp only [List.getD_cons_succ, List.getD_cons_zero] <;> rfl)) ?_) | (refine plan_move _ _ (by rfl) (by rfl) (.inr (by rfl)) (by first | (with_reducible exact Mem.ev_const _ _) | (with_reducible exact Mem.ev_zero _ _ _) | (with_reducible (apply Eq.trans (Mem.ev_tmp _ _ _)); simp only [List.getD_cons_succ, List.getD_cons_zero] <;> rfl)) ?_) | (refine plan_pick_t _ _ _ _ (by rfl) (by rfl) (by rfl) (by first | (with_reducible exact Mem.ev_const _ _) | (with_reducible exact Mem.ev_zero _ _ _) | (with_reducible (apply Eq.trans (Mem.ev_tmp _ _ _)); simp only [List.getD_cons_succ, List.getD_cons_zero] <;> rfl)) (by first | (with_reducible exact Mem.ev_const _ _) | (with_reducible exact Mem.ev_zero _ _ _) | (with_reducible (apply Eq.trans (Mem.ev_tmp _ _ _)); simp only [List.getD_cons_succ, List.getD_cons_zero] <;> rfl)) ?_) | (refine plan_pick_f _ _ _ _ (by rfl) (by rfl) (by rfl) (by first | (with_reducible exact Mem.ev_const _ _) | (with_reducible exact Mem.ev_zero _ _ _) | (with_reducible (apply Eq.trans (Mem.ev_tmp _ _ _)); simp only [List.getD_cons_succ, List.getD_cons_zero] <;> rfl)) (by first | (with_reducible exact Mem.ev_const _ _) | (with_reducible exact Mem.ev_zero _ _ _) | (with_reducible (apply Eq.trans (Mem.ev_tmp _ _ _)); simp only [List.getD_cons_succ, List.getD_cons_zero] <;> rfl)) ?_))
  (simp only [Act.put, List.setIfInBounds_toArray, List.set_cons_zero, List.set_cons_succ])
  refine plan_two ?_ ?_
  · refine plan_sole_cell 60 _ _ (.slice aw M capw) _ (by rfl) (by rfl) (by rfl) (by first | (with_reducible exact Mem.ev_const _ _) | (with_reducible exact Mem.ev_zero _ _ _) | (with_reducible (apply Eq.trans (Mem.ev_tmp _ _ _)); simp only [List.getD_cons_succ, List.getD_cons_zero] <;> rfl)) (by first | exact C1.out | exact C2.out | exact C3.out) Try.underlying60 (by rfl) trivial ?_
    (simp only [Act.put, List.setIfInBounds_toArray, List.set_cons_zero, List.set_cons_succ])
    refine plan_call 35 _ _ _ (by kernel_rfl) (by rfl) (by rfl) (by rfl) (by first | exact Mem.ev_none _ | (simp only [List.map_toArray, List.map_cons, List.map_nil, Mem.ev_tmp, List.getD_cons_succ, List.getD_cons_zero] <;> rfl)) ?_
    refine CL.out.mono ?_
    rintro o w2 ⟨v2, rfl, ho2, hb2⟩
    obtain ⟨a2, c2, rfl⟩ := own_hd ho2 XL.out.symm
    have C2 : Hid (w2.cell? ⟨br, 1, none⟩ = some (.slice aw M capw)) := by have h := C1.out; rw [hb2.cell (p := ⟨br, 1, none⟩) HV.out.blt]; exact h
    have C3 : Hid ((w2.alloc (.cells (wRow n (.slice a2 256 c2)) 80)).cell? ⟨br, 1, none⟩ = some (.slice aw M capw)) := (cell_alloc (block_lt_of_cell C2.out)).trans C2.out
    have O2 := Lib.hid ho2; have B2 := Lib.hid hb2; have OW := Lib.hid (ownsRow_below (ownsRow_below HO.out hb2) ((Below.refl _ w2).alloc (Nat.le_refl _) (.cells (wRow n (.slice a2 256 c2)) 80)))
    clear ho2 hb2
    refine ⟨_, rfl, trivial, ?_⟩
    (simp only [Act.put, List.setIfInBounds_toArray, List.set_cons_zero, List.set_cons_succ])
    refine plan_build 80 _ #[(0, .int .i64 (n : Int)), (1, .slice a2 256 c2)] (.agg (wRow n (.slice a2 256 c2))) (by rfl) (by rfl) (by rfl) (by first | rfl | simp [Act.eval]) (fun wx => BLD.out _ _ _ wx) ?_
    (simp only [Act.put, List.setIfInBounds_toArray, List.set_cons_zero, List.set_cons_succ])
    refine plan_slice 60 80 1 _ (wRow n (.slice a2 256 c2)) (by rfl) (by rfl) (by rfl) Try.underlying60 (by kernel_rfl) trivial ?_
    (simp only [Act.put, List.setIfInBounds_toArray, List.set_cons_zero, List.set_cons_succ])
    refine plan_append_app _ _ 60 (by rfl) (by rfl) (by rfl) (.slice (some ⟨w2.heap.size, 0, none⟩) 1 1) M 1 2 [.int .i64 (n : Int), .slice a2 256 c2] zeroPut 32 elemRW (by rfl) (by decide) (by first | (with_reducible exact Mem.ev_const _ _) | (with_reducible exact Mem.ev_zero _ _ _) | (with_reducible (apply Eq.trans (Mem.ev_tmp _ _ _)); simp only [List.getD_cons_succ, List.getD_cons_zero] <;> rfl)) OW.out (by first | (with_reducible exact Mem.ev_const _ _) | (with_reducible exact Mem.ev_zero _ _ _) | (with_reducible (apply Eq.trans (Mem.ev_tmp _ _ _)); simp only [List.getD_cons_succ, List.getD_cons_zero] <;> rfl)) (by exact rdR_new (e := 80) (C := wRow n (.slice a2 256 c2))) (by simp [Value.oneCell']) (by omega) (by omega) (by omega) ?_
    intro v5 w5 ho5 ha5 hb5
    obtain ⟨a5, c5, rfl⟩ := rows_hd ho5
    have O5 := Lib.hid ho5; have A5 := Lib.hid ha5; have B5 := Lib.hid hb5
    have R5 : Hid (At w5 br (pRow bb N (.slice aw M capw) vs vt) 62) := at_appd (((HROW.out.below B2.out HV.out.blt)).alloc _) A5.out NE.out
    clear ho5 ha5 hb5
    refine ⟨trivial, ?_⟩
    (simp only [Act.put, List.setIfInBounds_toArray, List.set_cons_zero, List.set_cons_succ])
    refine plan_nilcheck _ ⟨br, 0, none⟩ (by rfl) (by rfl) (by rfl) (by first | (with_reducible exact Mem.ev_const _ _) | (with_reducible exact Mem.ev_zero _ _ _) | (with_reducible (apply Eq.trans (Mem.ev_tmp _ _ _)); simp only [List.getD_cons_succ, List.getD_cons_zero] <;> rfl)) ?_
    (simp only [Act.put, List.setIfInBounds_toArray, List.set_cons_zero, List.set_cons_succ])
    refine plan_field 62 _ 1 br 0 ⟨br, 1, none⟩ (by rfl) (by rfl) (by rfl) (by first | (with_reducible exact Mem.ev_const _ _) | (with_reducible exact Mem.ev_zero _ _ _) | (with_reducible (apply Eq.trans (Mem.ev_tmp _ _ _)); simp only [List.getD_cons_succ, List.getD_cons_zero] <;> rfl)) (fun wx => by go_simp) ?_
    (simp only [Act.put, List.setIfInBounds_toArray, List.set_cons_zero, List.set_cons_succ])
    refine plan_store_one 60 _ _ br 1 (.slice a5 (M + 1) c5) _ 62 (by rfl) (by rfl) (by rfl) (by rfl) (by first | (with_reducible exact Mem.ev_const _ _) | (with_reducible exact Mem.ev_zero _ _ _) | (with_reducible (apply Eq.trans (Mem.ev_tmp _ _ _)); simp only [List.getD_cons_succ, List.getD_cons_zero] <;> rfl)) (by first | (with_reducible exact Mem.ev_const _ _) | (with_reducible exact Mem.ev_zero _ _ _) | (with_reducible (apply Eq.trans (Mem.ev_tmp _ _ _)); simp only [List.getD_cons_succ, List.getD_cons_zero] <;> rfl)) (by rfl) infoWs R5.out (by simp [pRow]) trivial ?_
    refine plan_nil ?_
    have E8 := Lib.hid (pv_wait (n := n) HV.out HE.out B2.out O2.out ((Below.refl _ w2).alloc (Nat.le_refl _) _) A5.out B5.out (by rw [← HM.out]; exact O5.out) HN.out (R5.out.set 1 (.slice a5 (M + 1) c5)) (fun k hk => heap_setCell_other w5 ⟨br, 1, none⟩ k _ hk) (fun B a hB hle => hB.setCell hle _))
    generalize w5.setCell ⟨br, 1, none⟩ (.slice a5 (M + 1) c5) = w8 at *
    go_wp2_with fail
    refine (pnote_any (n : Int) w8 E8.out.1.ps HT.out).mono ?_
    rintro o w9 ⟨rfl, hs9⟩
    have S9 := Lib.hid hs9
    clear hs9
    go_wp2_with fail
    go_ret
    exact ⟨rfl, StEnd.trans ((Chg.refl F w).drew) (fun k hk => .inl hk) (StEnd.trans E8.out.2 grow_ext S9.out)⟩
  · refine plan_call 35 _ _ _ (by kernel_rfl) (by rfl) (by rfl) (by rfl) (by first | exact Mem.ev_none _ | (simp only [List.map_toArray, List.map_cons, List.map_nil, Mem.ev_tmp, List.getD_cons_succ, List.getD_cons_zero] <;> rfl)) ?_
    refine CL.out.mono ?_
    rintro o w2 ⟨v2, rfl, ho2, hb2⟩
    obtain ⟨a2, c2, rfl⟩ := own_hd ho2 XL.out.symm
    have C2 : Hid (w2.cell? ⟨br, 1, none⟩ = some (.slice aw M capw)) := by have h := C1.out; rw [hb2.cell (p := ⟨br, 1, none⟩) HV.out.blt]; exact h
    have C3 : Hid ((w2.alloc (.cells (wRow n (.slice a2 256 c2)) 80)).cell? ⟨br, 1, none⟩ = some (.slice aw M capw)) := (cell_alloc (block_lt_of_cell C2.out)).trans C2.out
    have O2 := Lib.hid ho2; have B2 := Lib.hid hb2; have OW := Lib.hid (ownsRow_below (ownsRow_below HO.out hb2) ((Below.refl _ w2).alloc (Nat.le_refl _) (.cells (wRow n (.slice a2 256 c2)) 80)))
    clear ho2 hb2
    refine ⟨_, rfl, trivial, ?_⟩
    (simp only [Act.put, List.setIfInBounds_toArray, List.set_cons_zero, List.set_cons_succ])
    refine plan_build 80 _ #[(0, .int .i64 (n : Int)), (1, .slice a2 256 c2)] (.agg (wRow n (.slice a2 256 c2))) (by rfl) (by rfl) (by rfl) (by first | rfl | simp [Act.eval]) (fun wx => BLD.out _ _ _ wx) ?_
    (simp only [Act.put, List.setIfInBounds_toArray, List.set_cons_zero, List.set_cons_succ])
    refine plan_two ?_ ?_
    · refine plan_sole_cell 60 _ _ (.slice aw M capw) _ (by rfl) (by rfl) (by rfl) (by first | (with_reducible exact Mem.ev_const _ _) | (with_reducible exact Mem.ev_zero _ _ _) | (with_reducible (apply Eq.trans (Mem.ev_tmp _ _ _)); simp only [List.getD_cons_succ, List.getD_cons_zero] <;> rfl)) (by first | exact C1.out | exact C2.out | exact C3.out) Try.underlying60 (by rfl) trivial ?_
      (simp only [Act.put, List.setIfInBounds_toArray, List.set_cons_zero, List.set_cons_succ])
      refine plan_slice 60 80 1 _ (wRow n (.slice a2 256 c2)) (by rfl) (by rfl) (by rfl) Try.underlying60 (by kernel_rfl) trivial ?_
      (simp only [Act.put, List.setIfInBounds_toArray, List.set_cons_zero, List.set_cons_succ])
      refine plan_append_app _ _ 60 (by rfl) (by rfl) (by rfl) (.slice (some ⟨w2.heap.size, 0, none⟩) 1 1) M 1 2 [.int .i64 (n : Int), .slice a2 256 c2] zeroPut 32 elemRW (by rfl) (by decide) (by first | (with_reducible exact Mem.ev_const _ _) | (with_reducible exact Mem.ev_zero _ _ _) | (with_reducible (apply Eq.trans (Mem.ev_tmp _ _ _)); simp only [List.getD_cons_succ, List.getD_cons_zero] <;> rfl)) OW.out (by first | (with_reducible exact Mem.ev_const _ _) | (with_reducible exact Mem.ev_zero _ _ _) | (with_reducible (apply Eq.trans (Mem.ev_tmp _ _ _)); simp only [List.getD_cons_succ, List.getD_cons_zero] <;> rfl)) (by exact rdR_new (e := 80) (C := wRow n (.slice a2 256 c2))) (by simp [Value.oneCell']) (by omega) (by omega) (by omega) ?_
      intro v5 w5 ho5 ha5 hb5
      obtain ⟨a5, c5, rfl⟩ := rows_hd ho5
      have O5 := Lib.hid ho5; have A5 := Lib.hid ha5; have B5 := Lib.hid hb5
      have R5 : Hid (At w5 br (pRow bb N (.slice aw M capw) vs vt) 62) := at_appd (((HROW.out.below B2.out HV.out.blt)).alloc _) A5.out NE.out
      clear ho5 ha5 hb5
      refine ⟨trivial, ?_⟩
      (simp only [Act.put, List.setIfInBounds_toArray, List.set_cons_zero, List.set_cons_succ])
      refine plan_nilcheck _ ⟨br, 0, none⟩ (by rfl) (by rfl) (by rfl) (by first | (with_reducible exact Mem.ev_const _ _) | (with_reducible exact Mem.ev_zero _ _ _) | (with_reducible (apply Eq.trans (Mem.ev_tmp _ _ _)); simp only [List.getD_cons_succ, List.getD_cons_zero] <;> rfl)) ?_
      (simp only [Act.put, List.setIfInBounds_toArray, List.set_cons_zero, List.set_cons_succ])
      refine plan_field 62 _ 1 br 0 ⟨br, 1, none⟩ (by rfl) (by rfl) (by rfl) (by first | (with_reducible exact Mem.ev_const _ _) | (with_reducible exact Mem.ev_zero _ _ _) | (with_reducible (apply Eq.trans (Mem.ev_tmp _ _ _)); simp only [List.getD_cons_succ, List.getD_cons_zero] <;> rfl)) (fun wx => by go_simp) ?_
      (simp only [Act.put, List.setIfInBounds_toArray, List.set_cons_zero, List.set_cons_succ])
      refine plan_store_one 60 _ _ br 1 (.slice a5 (M + 1) c5) _ 62 (by rfl) (by rfl) (by rfl) (by rfl) (by first | (with_reducible exact Mem.ev_const _ _) | (with_reducible exact Mem.ev_zero _ _ _) | (with_reducible (apply Eq.trans (Mem.ev_tmp _ _ _)); simp only [List.getD_cons_succ, List.getD_cons_zero] <;> rfl)) (by first | (with_reducible exact Mem.ev_const _ _) | (with_reducible exact Mem.ev_zero _ _ _) | (with_reducible (apply Eq.trans (Mem.ev_tmp _ _ _)); simp only [List.getD_cons_succ, List.getD_cons_zero] <;> rfl)) (by rfl) infoWs R5.out (by simp [pRow]) trivial ?_
      refine plan_nil ?_
      have E8 := Lib.hid (pv_wait (n := n) HV.out HE.out B2.out O2.out ((Below.refl _ w2).alloc (Nat.le_refl _) _) A5.out B5.out (by rw [← HM.out]; exact O5.out) HN.out (R5.out.set 1 (.slice a5 (M + 1) c5)) (fun k hk => heap_setCell_other w5 ⟨br, 1, none⟩ k _ hk) (fun B a hB hle => hB.setCell hle _))
      generalize w5.setCell ⟨br, 1, none⟩ (.slice a5 (M + 1) c5) = w8 at *
      go_wp2_with fail
      refine (pnote_any (n : Int) w8 E8.out.1.ps HT.out).mono ?_
      rintro o w9 ⟨rfl, hs9⟩
      have S9 := Lib.hid hs9
      clear hs9
      go_wp2_with fail
      go_ret
      exact ⟨rfl, StEnd.trans ((Chg.refl F w).drew) (fun k hk => .inl hk) (StEnd.trans E8.out.2 grow_ext S9.out)⟩
    · refine plan_slice 60 80 1 _ (wRow n (.slice a2 256 c2)) (by rfl) (by rfl) (by rfl) Try.underlying60 (by kernel_rfl) trivial ?_
      (simp only [Act.put, List.setIfInBounds_toArray, List.set_cons_zero, List.set_cons_succ])
      refine plan_sole_cell 60 _ _ (.slice aw M capw) _ (by rfl) (by rfl) (by rfl) (by first | (with_reducible exact Mem.ev_const _ _) | (with_reducible exact Mem.ev_zero _ _ _) | (with_reducible (apply Eq.trans (Mem.ev_tmp _ _ _)); simp only [List.getD_cons_succ, List.getD_cons_zero] <;> rfl)) (by first | exact C1.out | exact C2.out | exact C3.out) Try.underlying60 (by rfl) trivial ?_
      (simp only [Act.put, List.setIfInBounds_toArray, List.set_cons_zero, List.set_cons_succ])
      refine plan_append_app _ _ 60 (by rfl) (by rfl) (by rfl) (.slice (some ⟨w2.heap.size, 0, none⟩) 1 1) M 1 2 [.int .i64 (n : Int), .slice a2 256 c2] zeroPut 32 elemRW (by rfl) (by decide) (by first | (with_reducible exact Mem.ev_const _ _) | (with_reducible exact Mem.ev_zero _ _ _) | (with_reducible (apply Eq.trans (Mem.ev_tmp _ _ _)); simp only [List.getD_cons_succ, List.getD_cons_zero] <;> rfl)) OW.out (by first | (with_reducible exact Mem.ev_const _ _) | (with_reducible exact Mem.ev_zero _ _ _) | (with_reducible (apply Eq.trans (Mem.ev_tmp _ _ _)); simp only [List.getD_cons_succ, List.getD_cons_zero] <;> rfl)) (by exact rdR_new (e := 80) (C := wRow n (.slice a2 256 c2))) (by simp [Value.oneCell']) (by omega) (by omega) (by omega) ?_
      intro v5 w5 ho5 ha5 hb5
      obtain ⟨a5, c5, rfl⟩ := rows_hd ho5
      have O5 := Lib.hid ho5; have A5 := Lib.hid ha5; have B5 := Lib.hid hb5
      have R5 : Hid (At w5 br (pRow bb N (.slice aw M capw) vs vt) 62) := at_appd (((HROW.out.below B2.out HV.out.blt)).alloc _) A5.out NE.out
      clear ho5 ha5 hb5
      refine ⟨trivial, ?_⟩
      (simp only [Act.put, List.setIfInBounds_toArray, List.set_cons_zero, List.set_cons_succ])
      refine plan_nilcheck _ ⟨br, 0, none⟩ (by rfl) (by rfl) (by rfl) (by first | (with_reducible exact Mem.ev_const _ _) | (with_reducible exact Mem.ev_zero _ _ _) | (with_reducible (apply Eq.trans (Mem.ev_tmp _ _ _)); simp only [List.getD_cons_succ, List.getD_cons_zero] <;> rfl)) ?_
      (simp only [Act.put, List.setIfInBounds_toArray, List.set_cons_zero, List.set_cons_succ])
      refine plan_field 62 _ 1 br 0 ⟨br, 1, none⟩ (by rfl) (by rfl) (by rfl) (by first | (with_reducible exact Mem.ev_const _ _) | (with_reducible exact Mem.ev_zero _ _ _) | (with_reducible (apply Eq.trans (Mem.ev_tmp _ _ _)); simp only [List.getD_cons_succ, List.getD_cons_zero] <;> rfl)) (fun wx => by go_simp) ?_
      (simp only [Act.put, List.setIfInBounds_toArray, List.set_cons_zero, List.set_cons_succ])
      refine plan_store_one 60 _ _ br 1 (.slice a5 (M + 1) c5) _ 62 (by rfl) (by rfl) (by rfl) (by rfl) (by first | (with_reducible exact Mem.ev_const _ _) | (with_reducible exact Mem.ev_zero _ _ _) | (with_reducible (apply Eq.trans (Mem.ev_tmp _ _ _)); simp only [List.getD_cons_succ, List.getD_cons_zero] <;> rfl)) (by first | (with_reducible exact Mem.ev_const _ _) | (with_reducible exact Mem.ev_zero _ _ _) | (with_reducible (apply Eq.trans (Mem.ev_tmp _ _ _)); simp only [List.getD_cons_succ, List.getD_cons_zero] <;> rfl)) (by rfl) infoWs R5.out (by simp [pRow]) trivial ?_
      refine plan_nil ?_
      have E8 := Lib.hid (pv_wait (n := n) HV.out HE.out B2.out O2.out ((Below.refl _ w2).alloc (Nat.le_refl _) _) A5.out B5.out (by rw [← HM.out]; exact O5.out) HN.out (R5.out.set 1 (.slice a5 (M + 1) c5)) (fun k hk => heap_setCell_other w5 ⟨br, 1, none⟩ k _ hk) (fun B a hB hle => hB.setCell hle _))
      generalize w5.setCell ⟨br, 1, none⟩ (.slice a5 (M + 1) c5) = w8 at *
      go_wp2_with fail
      refine (pnote_any (n : Int) w8 E8.out.1.ps HT.out).mono ?_
      rintro o w9 ⟨rfl, hs9⟩
      have S9 := Lib.hid hs9
      clear hs9
      go_wp2_with fail
      go_ret
      exact ⟨rfl, StEnd.trans ((Chg.refl F w).drew) (fun k hk => .inl hk) (StEnd.trans E8.out.2 grow_ext S9.out)⟩
set_option maxRecDepth 100000 in
set_option maxHeartbeats 1000000 in
theorem pput_full {F : Foot} {br : Nat} {s : St6} (w : World) (hr : PSt F br w s) (hok : Ok6 1000 s) (hl : 16 ≤ s.sh.length) :
    Calls Try.prog 23 #[rq br] w fun e w' => e = .returned (.tuple #[.int .i64 0, .int .i64 5]) ∧ StEnd PSt F br w s w' := by
  have hend := ps_same hr (Below.refl w.heap.size w)
  have HE := Lib.hid hend
  clear hend
  obtain ⟨D, bb, vw, vs, vt, hv⟩ := hr
  obtain ⟨asx, caps, rfl⟩ := hv.s_hd
  have hmd := pmade_any br bb s.n vw _ vt w hv.row hok.n2 hok.n1
  have h16 : s.sh.length = 16 := by have := hok.s16; omega
  have hrow := hv.row
  rw [h16] at hrow
  have c2 : w.cell? ⟨br, 2, none⟩ = some (.slice asx 16 caps) := by rw [hrow.cell]; rfl
  have MD := Lib.hid hmd
  clear hmd hv hrow hok hl h16
  go_enter Try.func23, Try.ntmps23
  go_wp2_with fail
  refine MD.out.mono ?_
  rintro o w' ⟨rfl, rfl⟩
  go_wp2_with fail
  go_ret2
  exact ⟨rfl, HE.out⟩
set_option maxRecDepth 100000 in
set_option maxHeartbeats 4000000 in
theorem pput_good {F : Foot} {br : Nat} {s : St6} (w : World) (hr : PSt F br w s) (hok : Ok6 1000 s) (hl : s.sh.length < 16) :
    Calls Try.prog 23 #[rq br] w fun e w' => e = .returned (.tuple #[.int .i64 (s.sh.length : Int), .int .i64 0]) ∧ StEnd PSt F br w (stPut s) w' := by
  obtain ⟨D, bb, vw, vs, vt, hv⟩ := hr
  obtain ⟨asx, caps, rfl⟩ := hv.s_hd
  have hmd := pmade_any br bb s.n vw _ vt w hv.row hok.n2 hok.n1
  have hn2 := hok.n2
  obtain ⟨hs, he, hown⟩ := hv.m.hs
  have hne := own_ne_at hown hv.row (by decide)
  obtain ⟨N, hN⟩ : ∃ N, N = s.n := ⟨_, rfl⟩
  obtain ⟨L, hL⟩ : ∃ L, L = N * 256 := ⟨_, rfl⟩
  obtain ⟨M, hM⟩ : ∃ M, M = s.sh.length := ⟨_, rfl⟩
  have hbl : s.b.length = L := by rw [hL, hN]; exact hok.b
  have hcl := pclone_any s.b (.slice (some ⟨bb, 0, none⟩) L L) w.drew (by rw [hbl, hL]; omega) (at_sl (hv.m.by8.drew) hbl)
  have hrow := hv.row
  rw [← hM] at hrow hl hown hne hv ⊢
  rw [← hN] at hrow
  have hv2 := hv.below (Below.refl _ _).drew
  have c1 : w.drew.cell? ⟨br, 2, none⟩ = some (.slice asx M caps) := by show w.cell? _ = _; rw [hrow.cell]; rfl
  have c1' : w.cell? ⟨br, 2, none⟩ = some (.slice asx M caps) := c1
  have c0 : w.drew.cell? ⟨br, 0, none⟩ = some (.slice (some ⟨bb, 0, none⟩) L L) := by show w.cell? _ = _; rw [hrow.cell, hL]; rfl
  have g1 : ¬ (M : Int) = 16 := by omega
  have HV := Lib.hid hv2; have MD := Lib.hid hmd; have CL := Lib.hid hcl; have HROW : Hid (At w.drew br (pRow bb N vw (.slice asx M caps) vt) 62) := hrow.drew; have HO : Hid (w.drew.ownsRow 0 27 1 (.slice asx M caps) M hs) := hown; have HE : Hid (Each2 (fun p q => SlB D w.drew p q) hs s.sh) := he; have NE := Lib.hid hne; have C1 := Lib.hid c1; have C0 := Lib.hid c0; have BL := Lib.hid hbl; have HN := Lib.hid hN; have HM := Lib.hid hM
  clear hv hv2 hmd hcl hrow hown he hne c1 c0 hbl hN hM hL hok
  go_enter Try.func23, Try.ntmps23
  go_wp2_with fail
  refine MD.out.mono ?_
  rintro o w' ⟨rfl, rfl⟩
  go_wp2_with fail
  clear c1'
  refine wp_region_plan_in (fun _ => True) (.take 0 (.take 1 (.take 2 (.take 3 (.take 5 (.take 6 (.take 7 (.two 4 8 (.sole 8 (.sole 9 (.sole 10 (.sole 11 (.take 12 (.take 13 (.sole 14 .done))))))) (.two 4 9 (.sole 9 (.sole 10 (.sole 11 (.take 12 (.take 13 (.sole 14 .done)))))) (.two 4 10 (.sole 10 (.sole 11 (.take 12 (.take 13 (.sole 14 .done))))) (.sole 4 (.sole 11 (.take 12 (.take 13 (.sole 14 .done))))))))))))))) (by kernel_rfl) (by kernel_rfl) (by kernel_rfl) trivial ?_
  (first | (refine plan_move _ _ (by rfl) (by rfl) (.inl (by rfl)) (by first | (with_reducible exact Mem.ev_const _ _) | (with_reducible exact Mem.ev_zero _ _ _) | (with_reducible (apply Eq.trans (Mem.ev_tmp _ _ _)); simp only [List.getD_cons_succ, List.getD_cons_zero] <;> rfl)) ?_) | (refine plan_move _ _ (by rfl) (by rfl) (.inr (by rfl)) (by first | (with_reducible exact Mem.ev_const _ _) | (with_reducible exact Mem.ev_zero _ _ _) | (with_reducible (apply Eq.trans (Mem.ev_tmp _ _ _)); simp only [List.getD_cons_succ, List.getD_cons_zero] <;> rfl)) ?_) | (refine plan_pick_t _ _ _ _ (by rfl) (by rfl) (by rfl) (by first | (with_reducible exact Mem.ev_const _ _) | (with_reducible exact Mem.ev_zero _ _ _) | (with_reducible (apply Eq.trans (Mem.ev_tmp _ _ _)); simp only [List.getD_cons_succ, List.getD_cons_zero] <;> rfl)) (by first | (with_reducible exact Mem.ev_const _ _) | (with_reducible exact Mem.ev_zero _ _ _) | (with_reducible (apply Eq.trans (Mem.ev_tmp _ _ _)); simp only [List.getD_cons_succ, List.getD_cons_zero] <;> rfl)) ?_) | (refine plan_pick_f _ _ _ _ (by rfl) (by rfl) (by rfl) (by first | (with_reducible exact Mem.ev_const _ _) | (with_reducible exact Mem.ev_zero _ _ _) | (with_reducible (apply Eq.trans (Mem.ev_tmp _ _ _)); simp only [List.getD_cons_succ, List.getD_cons_zero] <;> rfl)) (by first | (with_reducible exact Mem.ev_const _ _) | (with_reducible exact Mem.ev_zero _ _ _) | (with_reducible (apply Eq.trans (Mem.ev_tmp _ _ _)); simp only [List.getD_cons_succ, List.getD_cons_zero] <;> rfl)) ?_))
  (simp only [Act.put, List.setIfInBounds_toArray, List.set_cons_zero, List.set_cons_succ])
  (first | (refine plan_move _ _ (by rfl) (by rfl) (.inl (by rfl)) (by first | (with_reducible exact Mem.ev_const _ _) | (with_reducible exact Mem.ev_zero _ _ _) | (with_reducible (apply Eq.trans (Mem.ev_tmp _ _ _)); simp only [List.getD_cons_succ, List.getD_cons_zero] <;> rfl)) ?_) | (refine plan_move _ _ (by rfl) (by rfl) (.inr (by rfl)) (by first | (with_reducible exact Mem.ev_const _ _) | (with_reducible exact Mem.ev_zero _ _ _) | (with_reducible (apply Eq.trans (Mem.ev_tmp _ _ _)); simp only [List.getD_cons_succ, List.getD_cons_zero] <;> rfl)) ?_) | (refine plan_pick_t _ _ _ _ (by rfl) (by rfl) (by rfl) (by first | (with_reducible exact Mem.ev_const _ _) | (with_reducible exact Mem.ev_zero _ _ _) | (with_reducible (apply Eq.trans (Mem.ev_tmp _ _ _)); simp only [List.getD_cons_succ, List.getD_cons_zero] <;> rfl)) (by first | (with_reducible exact Mem.ev_const _ _) | (with_reducible exact Mem.ev_zero _ _ _) | (with_reducible (apply Eq.trans (Mem.ev_tmp _ _ _)); simp only [List.getD_cons_succ, List.getD_cons_zero] <;> rfl)) ?_) | (refine plan_pick_f _ _ _ _ (by rfl) (by rfl) (by rfl) (by first | (with_reducible exact Mem.ev_const _ _) | (with_reducible exact Mem.ev_zero _ _ _) | (with_reducible (apply Eq.trans (Mem.ev_tmp _ _ _)); simp only [List.getD_cons_succ, List.getD_cons_zero] <;> rfl)) (by first | (with_reducible exact Mem.ev_const _ _) | (with_reducible exact Mem.ev_zero _ _ _) | (with_reducible (apply Eq.trans (Mem.ev_tmp _ _ _)); simp only [List.getD_cons_succ, List.getD_cons_zero] <;> rfl)) ?_))
  (simp only [Act.put, List.setIfInBounds_toArray, List.set_cons_zero, List.set_cons_succ])
  refine plan_nilcheck _ ⟨br, 0, none⟩ (by rfl) (by rfl) (by rfl) (by first | (with_reducible exact Mem.ev_const _ _) | (with_reducible exact Mem.ev_zero _ _ _) | (with_reducible (apply Eq.trans (Mem.ev_tmp _ _ _)); simp only [List.getD_cons_succ, List.getD_cons_zero] <;> rfl)) ?_
  (simp only [Act.put, List.setIfInBounds_toArray, List.set_cons_zero, List.set_cons_succ])
  refine plan_field 62 _ 2 br 0 ⟨br, 2, none⟩ (by rfl) (by rfl) (by rfl) (by first | (with_reducible exact Mem.ev_const _ _) | (with_reducible exact Mem.ev_zero _ _ _) | (with_reducible (apply Eq.trans (Mem.ev_tmp _ _ _)); simp only [List.getD_cons_succ, List.getD_cons_zero] <;> rfl)) (fun wx => by go_simp) ?_
  (simp only [Act.put, List.setIfInBounds_toArray, List.set_cons_zero, List.set_cons_succ])
  (first | (refine plan_move _ _ (by rfl) (by rfl) (.inl (by rfl)) (by first | (with_reducible exact Mem.ev_const _ _) | (with_reducible exact Mem.ev_zero _ _ _) | (with_reducible (apply Eq.trans (Mem.ev_tmp _ _ _)); simp only [List.getD_cons_succ, List.getD_cons_zero] <;> rfl)) ?_) | (refine plan_move _ _ (by rfl) (by rfl) (.inr (by rfl)) (by first | (with_reducible exact Mem.ev_const _ _) | (with_reducible exact Mem.ev_zero _ _ _) | (with_reducible (apply Eq.trans (Mem.ev_tmp _ _ _)); simp only [List.getD_cons_succ, List.getD_cons_zero] <;> rfl)) ?_) | (refine plan_pick_t _ _ _ _ (by rfl) (by rfl) (by rfl) (by first | (with_reducible exact Mem.ev_const _ _) | (with_reducible exact Mem.ev_zero _ _ _) | (with_reducible (apply Eq.trans (Mem.ev_tmp _ _ _)); simp only [List.getD_cons_succ, List.getD_cons_zero] <;> rfl)) (by first | (with_reducible exact Mem.ev_const _ _) | (with_reducible exact Mem.ev_zero _ _ _) | (with_reducible (apply Eq.trans (Mem.ev_tmp _ _ _)); simp only [List.getD_cons_succ, List.getD_cons_zero] <;> rfl)) ?_) | (refine plan_pick_f _ _ _ _ (by rfl) (by rfl) (by rfl) (by first | (with_reducible exact Mem.ev_const _ _) | (with_reducible exact Mem.ev_zero _ _ _) | (with_reducible (apply Eq.trans (Mem.ev_tmp _ _ _)); simp only [List.getD_cons_succ, List.getD_cons_zero] <;> rfl)) (by first | (with_reducible exact Mem.ev_const _ _) | (with_reducible exact Mem.ev_zero _ _ _) | (with_reducible (apply Eq.trans (Mem.ev_tmp _ _ _)); simp only [List.getD_cons_succ, List.getD_cons_zero] <;> rfl)) ?_))
  (simp only [Act.put, List.setIfInBounds_toArray, List.set_cons_zero, List.set_cons_succ])
  refine plan_nilcheck _ ⟨br, 0, none⟩ (by rfl) (by rfl) (by rfl) (by first | (with_reducible exact Mem.ev_const _ _) | (with_reducible exact Mem.ev_zero _ _ _) | (with_reducible (apply Eq.trans (Mem.ev_tmp _ _ _)); simp only [List.getD_cons_succ, List.getD_cons_zero] <;> rfl)) ?_
  (simp only [Act.put, List.setIfInBounds_toArray, List.set_cons_zero, List.set_cons_succ])
  refine plan_field 62 _ 0 br 0 ⟨br, 0, none⟩ (by rfl) (by rfl) (by rfl) (by first | (with_reducible exact Mem.ev_const _ _) | (with_reducible exact Mem.ev_zero _ _ _) | (with_reducible (apply Eq.trans (Mem.ev_tmp _ _ _)); simp only [List.getD_cons_succ, List.getD_cons_zero] <;> rfl)) (fun wx => by go_simp) ?_
  (simp only [Act.put, List.setIfInBounds_toArray, List.set_cons_zero, List.set_cons_succ])
  refine plan_two ?_ ?_
  · refine plan_sole_cell 29 _ _ (.slice asx M caps) _ (by rfl) (by rfl) (by rfl) (by first | (with_reducible exact Mem.ev_const _ _) | (with_reducible exact Mem.ev_zero _ _ _) | (with_reducible (apply Eq.trans (Mem.ev_tmp _ _ _)); simp only [List.getD_cons_succ, List.getD_cons_zero] <;> rfl)) (by first | exact C1.out | exact C2.out | exact C3.out) Try.underlying29 (by rfl) trivial ?_
    (simp only [Act.put, List.setIfInBounds_toArray, List.set_cons_zero, List.set_cons_succ])
    refine plan_sole_cell 27 _ _ (.slice (some ⟨bb, 0, none⟩) L L) _ (by rfl) (by rfl) (by rfl) (by first | (with_reducible exact Mem.ev_const _ _) | (with_reducible exact Mem.ev_zero _ _ _) | (with_reducible (apply Eq.trans (Mem.ev_tmp _ _ _)); simp only [List.getD_cons_succ, List.getD_cons_zero] <;> rfl)) (by exact C0.out) Try.underlying27 (by rfl) trivial ?_
    (simp only [Act.put, List.setIfInBounds_toArray, List.set_cons_zero, List.set_cons_succ])
    refine plan_call 35 _ _ _ (by kernel_rfl) (by rfl) (by rfl) (by rfl) (by first | exact Mem.ev_none _ | (simp only [List.map_toArray, List.map_cons, List.map_nil, Mem.ev_tmp, List.getD_cons_succ, List.getD_cons_zero] <;> rfl)) ?_
    refine CL.out.mono ?_
    rintro o w2 ⟨v2, rfl, ho2, hb2⟩
    obtain ⟨a2, c2, rfl⟩ := own_hd ho2 BL.out.symm
    have C2 : Hid (w2.cell? ⟨br, 2, none⟩ = some (.slice asx M caps)) := by have h := C1.out; rw [hb2.cell (p := ⟨br, 2, none⟩) HV.out.blt]; exact h
    have C3 : Hid ((w2.alloc (.cells #[.slice a2 L c2] 27)).cell? ⟨br, 2, none⟩ = some (.slice asx M caps)) := (cell_alloc (block_lt_of_cell C2.out)).trans C2.out
    have O2 := Lib.hid ho2; have B2 := Lib.hid hb2; have OW := Lib.hid (ownsRow_below (ownsRow_below HO.out hb2) ((Below.refl _ w2).alloc (Nat.le_refl _) (.cells #[.slice a2 L c2] 27)))
    clear ho2 hb2
    refine ⟨_, rfl, trivial, ?_⟩
    (simp only [Act.put, List.setIfInBounds_toArray, List.set_cons_zero, List.set_cons_succ])
    refine plan_slice 29 27 1 _ #[.slice a2 L c2] (by rfl) (by rfl) (by rfl) Try.underlying29 (by kernel_rfl) trivial ?_
    (simp only [Act.put, List.setIfInBounds_toArray, List.set_cons_zero, List.set_cons_succ])
    refine plan_append_app _ _ 29 (by rfl) (by rfl) (by rfl) (.slice (some ⟨w2.heap.size, 0, none⟩) 1 1) M 1 1 [.slice a2 L c2] (.slice none 0 0) 24 elemRS (by rfl) (by decide) (by first | (with_reducible exact Mem.ev_const _ _) | (with_reducible exact Mem.ev_zero _ _ _) | (with_reducible (apply Eq.trans (Mem.ev_tmp _ _ _)); simp only [List.getD_cons_succ, List.getD_cons_zero] <;> rfl)) OW.out (by first | (with_reducible exact Mem.ev_const _ _) | (with_reducible exact Mem.ev_zero _ _ _) | (with_reducible (apply Eq.trans (Mem.ev_tmp _ _ _)); simp only [List.getD_cons_succ, List.getD_cons_zero] <;> rfl)) (by exact rdR_new (e := 27) (C := #[.slice a2 L c2])) (by simp [Value.oneCell']) (by omega) (by omega) (by omega) ?_
    intro v5 w5 ho5 ha5 hb5
    obtain ⟨a5, c5, rfl⟩ := rows_hd ho5
    have O5 := Lib.hid ho5; have A5 := Lib.hid ha5; have B5 := Lib.hid hb5
    have R5 : Hid (At w5 br (pRow bb N vw (.slice asx M caps) vt) 62) := at_appd (((HROW.out.below B2.out HV.out.blt)).alloc _) A5.out NE.out
    clear ho5 ha5 hb5
    refine ⟨trivial, ?_⟩
    (simp only [Act.put, List.setIfInBounds_toArray, List.set_cons_zero, List.set_cons_succ])
    refine plan_nilcheck _ ⟨br, 0, none⟩ (by rfl) (by rfl) (by rfl) (by first | (with_reducible exact Mem.ev_const _ _) | (with_reducible exact Mem.ev_zero _ _ _) | (with_reducible (apply Eq.trans (Mem.ev_tmp _ _ _)); simp only [List.getD_cons_succ, List.getD_cons_zero] <;> rfl)) ?_
    (simp only [Act.put, List.setIfInBounds_toArray, List.set_cons_zero, List.set_cons_succ])
    refine plan_field 62 _ 2 br 0 ⟨br, 2, none⟩ (by rfl) (by rfl) (by rfl) (by first | (with_reducible exact Mem.ev_const _ _) | (with_reducible exact Mem.ev_zero _ _ _) | (with_reducible (apply Eq.trans (Mem.ev_tmp _ _ _)); simp only [List.getD_cons_succ, List.getD_cons_zero] <;> rfl)) (fun wx => by go_simp) ?_
    (simp only [Act.put, List.setIfInBounds_toArray, List.set_cons_zero, List.set_cons_succ])
    refine plan_store_one 29 _ _ br 2 (.slice a5 (M + 1) c5) _ 62 (by rfl) (by rfl) (by rfl) (by rfl) (by first | (with_reducible exact Mem.ev_const _ _) | (with_reducible exact Mem.ev_zero _ _ _) | (with_reducible (apply Eq.trans (Mem.ev_tmp _ _ _)); simp only [List.getD_cons_succ, List.getD_cons_zero] <;> rfl)) (by first | (with_reducible exact Mem.ev_const _ _) | (with_reducible exact Mem.ev_zero _ _ _) | (with_reducible (apply Eq.trans (Mem.ev_tmp _ _ _)); simp only [List.getD_cons_succ, List.getD_cons_zero] <;> rfl)) (by rfl) infoSh1 R5.out (by simp [pRow]) trivial ?_
    refine plan_nil ?_
    have E8 := Lib.hid (pv_shelf HV.out HE.out B2.out O2.out ((Below.refl _ w2).alloc (Nat.le_refl _) _) A5.out B5.out (by rw [← HM.out]; exact O5.out) HN.out (R5.out.set 2 (.slice a5 (M + 1) c5)) (fun k hk => heap_setCell_other w5 ⟨br, 2, none⟩ k _ hk) (fun B a hB hle => hB.setCell hle _))
    have c8 : (w5.setCell ⟨br, 2, none⟩ (.slice a5 (M + 1) c5)).cell? ⟨br, 2, none⟩ = some (.slice a5 (M + 1) c5) := by rw [(R5.out.set 2 (.slice a5 (M + 1) c5)).cell]; rfl
    generalize w5.setCell ⟨br, 2, none⟩ (.slice a5 (M + 1) c5) = w8 at *
    go_wp2_with fail
    go_ret2
    exact ⟨rfl, StEnd.trans ((Chg.refl F w).drew) (fun k hk => .inl hk) (pv_end E8.out.1 E8.out.2)⟩
  · refine plan_sole_cell 27 _ _ (.slice (some ⟨bb, 0, none⟩) L L) _ (by rfl) (by rfl) (by rfl) (by first | (with_reducible exact Mem.ev_const _ _) | (with_reducible exact Mem.ev_zero _ _ _) | (with_reducible (apply Eq.trans (Mem.ev_tmp _ _ _)); simp only [List.getD_cons_succ, List.getD_cons_zero] <;> rfl)) (by exact C0.out) Try.underlying27 (by rfl) trivial ?_
    (simp only [Act.put, List.setIfInBounds_toArray, List.set_cons_zero, List.set_cons_succ])
    refine plan_two ?_ ?_
    · refine plan_sole_cell 29 _ _ (.slice asx M caps) _ (by rfl) (by rfl) (by rfl) (by first | (with_reducible exact Mem.ev_const _ _) | (with_reducible exact Mem.ev_zero _ _ _) | (with_reducible (apply Eq.trans (Mem.ev_tmp _ _ _)); simp only [List.getD_cons_succ, List.getD_cons_zero] <;> rfl)) (by first | exact C1.out | exact C2.out | exact C3.out) Try.underlying29 (by rfl) trivial ?_
      (simp only [Act.put, List.setIfInBounds_toArray, List.set_cons_zero, List.set_cons_succ])
      refine plan_call 35 _ _ _ (by kernel_rfl) (by rfl) (by rfl) (by rfl) (by first | exact Mem.ev_none _ | (simp only [List.map_toArray, List.map_cons, List.map_nil, Mem.ev_tmp, List.getD_cons_succ, List.getD_cons_zero] <;> rfl)) ?_
      refine CL.out.mono ?_
      rintro o w2 ⟨v2, rfl, ho2, hb2⟩
      obtain ⟨a2, c2, rfl⟩ := own_hd ho2 BL.out.symm
      have C2 : Hid (w2.cell? ⟨br, 2, none⟩ = some (.slice asx M caps)) := by have h := C1.out; rw [hb2.cell (p := ⟨br, 2, none⟩) HV.out.blt]; exact h
      have C3 : Hid ((w2.alloc (.cells #[.slice a2 L c2] 27)).cell? ⟨br, 2, none⟩ = some (.slice asx M caps)) := (cell_alloc (block_lt_of_cell C2.out)).trans C2.out
      have O2 := Lib.hid ho2; have B2 := Lib.hid hb2; have OW := Lib.hid (ownsRow_below (ownsRow_below HO.out hb2) ((Below.refl _ w2).alloc (Nat.le_refl _) (.cells #[.slice a2 L c2] 27)))
      clear ho2 hb2
      refine ⟨_, rfl, trivial, ?_⟩
      (simp only [Act.put, List.setIfInBounds_toArray, List.set_cons_zero, List.set_cons_succ])
      refine plan_slice 29 27 1 _ #[.slice a2 L c2] (by rfl) (by rfl) (by rfl) Try.underlying29 (by kernel_rfl) trivial ?_
      (simp only [Act.put, List.setIfInBounds_toArray, List.set_cons_zero, List.set_cons_succ])
      refine plan_append_app _ _ 29 (by rfl) (by rfl) (by rfl) (.slice (some ⟨w2.heap.size, 0, none⟩) 1 1) M 1 1 [.slice a2 L c2] (.slice none 0 0) 24 elemRS (by rfl) (by decide) (by first | (with_reducible exact Mem.ev_const _ _) | (with_reducible exact Mem.ev_zero _ _ _) | (with_reducible (apply Eq.trans (Mem.ev_tmp _ _ _)); simp only [List.getD_cons_succ, List.getD_cons_zero] <;> rfl)) OW.out (by first | (with_reducible exact Mem.ev_const _ _) | (with_reducible exact Mem.ev_zero _ _ _) | (with_reducible (apply Eq.trans (Mem.ev_tmp _ _ _)); simp only [List.getD_cons_succ, List.getD_cons_zero] <;> rfl)) (by exact rdR_new (e := 27) (C := #[.slice a2 L c2])) (by simp [Value.oneCell']) (by omega) (by omega) (by omega) ?_
      intro v5 w5 ho5 ha5 hb5
      obtain ⟨a5, c5, rfl⟩ := rows_hd ho5
      have O5 := Lib.hid ho5; have A5 := Lib.hid ha5; have B5 := Lib.hid hb5
      have R5 : Hid (At w5 br (pRow bb N vw (.slice asx M caps) vt) 62) := at_appd (((HROW.out.below B2.out HV.out.blt)).alloc _) A5.out NE.out
      clear ho5 ha5 hb5
      refine ⟨trivial, ?_⟩
      (simp only [Act.put, List.setIfInBounds_toArray, List.set_cons_zero, List.set_cons_succ])
      refine plan_nilcheck _ ⟨br, 0, none⟩ (by rfl) (by rfl) (by rfl) (by first | (with_reducible exact Mem.ev_const _ _) | (with_reducible exact Mem.ev_zero _ _ _) | (with_reducible (apply Eq.trans (Mem.ev_tmp _ _ _)); simp only [List.getD_cons_succ, List.getD_cons_zero] <;> rfl)) ?_
      (simp only [Act.put, List.setIfInBounds_toArray, List.set_cons_zero, List.set_cons_succ])
      refine plan_field 62 _ 2 br 0 ⟨br, 2, none⟩ (by rfl) (by rfl) (by rfl) (by first | (with_reducible exact Mem.ev_const _ _) | (with_reducible exact Mem.ev_zero _ _ _) | (with_reducible (apply Eq.trans (Mem.ev_tmp _ _ _)); simp only [List.getD_cons_succ, List.getD_cons_zero] <;> rfl)) (fun wx => by go_simp) ?_
      (simp only [Act.put, List.setIfInBounds_toArray, List.set_cons_zero, List.set_cons_succ])
      refine plan_store_one 29 _ _ br 2 (.slice a5 (M + 1) c5) _ 62 (by rfl) (by rfl) (by rfl) (by rfl) (by first | (with_reducible exact Mem.ev_const _ _) | (with_reducible exact Mem.ev_zero _ _ _) | (with_reducible (apply Eq.trans (Mem.ev_tmp _ _ _)); simp only [List.getD_cons_succ, List.getD_cons_zero] <;> rfl)) (by first | (with_reducible exact Mem.ev_const _ _) | (with_reducible exact Mem.ev_zero _ _ _) | (with_reducible (apply Eq.trans (Mem.ev_tmp _ _ _)); simp only [List.getD_cons_succ, List.getD_cons_zero] <;> rfl)) (by rfl) infoSh1 R5.out (by simp [pRow]) trivial ?_
      refine plan_nil ?_
      have E8 := Lib.hid (pv_shelf HV.out HE.out B2.out O2.out ((Below.refl _ w2).alloc (Nat.le_refl _) _) A5.out B5.out (by rw [← HM.out]; exact O5.out) HN.out (R5.out.set 2 (.slice a5 (M + 1) c5)) (fun k hk => heap_setCell_other w5 ⟨br, 2, none⟩ k _ hk) (fun B a hB hle => hB.setCell hle _))
      have c8 : (w5.setCell ⟨br, 2, none⟩ (.slice a5 (M + 1) c5)).cell? ⟨br, 2, none⟩ = some (.slice a5 (M + 1) c5) := by rw [(R5.out.set 2 (.slice a5 (M + 1) c5)).cell]; rfl
      generalize w5.setCell ⟨br, 2, none⟩ (.slice a5 (M + 1) c5) = w8 at *
      go_wp2_with fail
      go_ret2
      exact ⟨rfl, StEnd.trans ((Chg.refl F w).drew) (fun k hk => .inl hk) (pv_end E8.out.1 E8.out.2)⟩
    · refine plan_call 35 _ _ _ (by kernel_rfl) (by rfl) (by rfl) (by rfl) (by first | exact Mem.ev_none _ | (simp only [List.map_toArray, List.map_cons, List.map_nil, Mem.ev_tmp, List.getD_cons_succ, List.getD_cons_zero] <;> rfl)) ?_
      refine CL.out.mono ?_
      rintro o w2 ⟨v2, rfl, ho2, hb2⟩
      obtain ⟨a2, c2, rfl⟩ := own_hd ho2 BL.out.symm
      have C2 : Hid (w2.cell? ⟨br, 2, none⟩ = some (.slice asx M caps)) := by have h := C1.out; rw [hb2.cell (p := ⟨br, 2, none⟩) HV.out.blt]; exact h
      have C3 : Hid ((w2.alloc (.cells #[.slice a2 L c2] 27)).cell? ⟨br, 2, none⟩ = some (.slice asx M caps)) := (cell_alloc (block_lt_of_cell C2.out)).trans C2.out
      have O2 := Lib.hid ho2; have B2 := Lib.hid hb2; have OW := Lib.hid (ownsRow_below (ownsRow_below HO.out hb2) ((Below.refl _ w2).alloc (Nat.le_refl _) (.cells #[.slice a2 L c2] 27)))
      clear ho2 hb2
      refine ⟨_, rfl, trivial, ?_⟩
      (simp only [Act.put, List.setIfInBounds_toArray, List.set_cons_zero, List.set_cons_succ])
      refine plan_two ?_ ?_
      · refine plan_sole_cell 29 _ _ (.slice asx M caps) _ (by rfl) (by rfl) (by rfl) (by first | (with_reducible exact Mem.ev_const _ _) | (with_reducible exact Mem.ev_zero _ _ _) | (with_reducible (apply Eq.trans (Mem.ev_tmp _ _ _)); simp only [List.getD_cons_succ, List.getD_cons_zero] <;> rfl)) (by first | exact C1.out | exact C2.out | exact C3.out) Try.underlying29 (by rfl) trivial ?_
        (simp only [Act.put, List.setIfInBounds_toArray, List.set_cons_zero, List.set_cons_succ])
        refine plan_slice 29 27 1 _ #[.slice a2 L c2] (by rfl) (by rfl) (by rfl) Try.underlying29 (by kernel_rfl) trivial ?_
        (simp only [Act.put, List.setIfInBounds_toArray, List.set_cons_zero, List.set_cons_succ])
        refine plan_append_app _ _ 29 (by rfl) (by rfl) (by rfl) (.slice (some ⟨w2.heap.size, 0, none⟩) 1 1) M 1 1 [.slice a2 L c2] (.slice none 0 0) 24 elemRS (by rfl) (by decide) (by first | (with_reducible exact Mem.ev_const _ _) | (with_reducible exact Mem.ev_zero _ _ _) | (with_reducible (apply Eq.trans (Mem.ev_tmp _ _ _)); simp only [List.getD_cons_succ, List.getD_cons_zero] <;> rfl)) OW.out (by first | (with_reducible exact Mem.ev_const _ _) | (with_reducible exact Mem.ev_zero _ _ _) | (with_reducible (apply Eq.trans (Mem.ev_tmp _ _ _)); simp only [List.getD_cons_succ, List.getD_cons_zero] <;> rfl)) (by exact rdR_new (e := 27) (C := #[.slice a2 L c2])) (by simp [Value.oneCell']) (by omega) (by omega) (by omega) ?_
        intro v5 w5 ho5 ha5 hb5
        obtain ⟨a5, c5, rfl⟩ := rows_hd ho5
        have O5 := Lib.hid ho5; have A5 := Lib.hid ha5; have B5 := Lib.hid hb5
        have R5 : Hid (At w5 br (pRow bb N vw (.slice asx M caps) vt) 62) := at_appd (((HROW.out.below B2.out HV.out.blt)).alloc _) A5.out NE.out
        clear ho5 ha5 hb5
        refine ⟨trivial, ?_⟩
        (simp only [Act.put, List.setIfInBounds_toArray, List.set_cons_zero, List.set_cons_succ])
        refine plan_nilcheck _ ⟨br, 0, none⟩ (by rfl) (by rfl) (by rfl) (by first | (with_reducible exact Mem.ev_const _ _) | (with_reducible exact Mem.ev_zero _ _ _) | (with_reducible (apply Eq.trans (Mem.ev_tmp _ _ _)); simp only [List.getD_cons_succ, List.getD_cons_zero] <;> rfl)) ?_
        (simp only [Act.put, List.setIfInBounds_toArray, List.set_cons_zero, List.set_cons_succ])
        refine plan_field 62 _ 2 br 0 ⟨br, 2, none⟩ (by rfl) (by rfl) (by rfl) (by first | (with_reducible exact Mem.ev_const _ _) | (with_reducible exact Mem.ev_zero _ _ _) | (with_reducible (apply Eq.trans (Mem.ev_tmp _ _ _)); simp only [List.getD_cons_succ, List.getD_cons_zero] <;> rfl)) (fun wx => by go_simp) ?_
        (simp only [Act.put, List.setIfInBounds_toArray, List.set_cons_zero, List.set_cons_succ])
        refine plan_store_one 29 _ _ br 2 (.slice a5 (M + 1) c5) _ 62 (by rfl) (by rfl) (by rfl) (by rfl) (by first | (with_reducible exact Mem.ev_const _ _) | (with_reducible exact Mem.ev_zero _ _ _) | (with_reducible (apply Eq.trans (Mem.ev_tmp _ _ _)); simp only [List.getD_cons_succ, List.getD_cons_zero] <;> rfl)) (by first | (with_reducible exact Mem.ev_const _ _) | (with_reducible exact Mem.ev_zero _ _ _) | (with_reducible (apply Eq.trans (Mem.ev_tmp _ _ _)); simp only [List.getD_cons_succ, List.getD_cons_zero] <;> rfl)) (by rfl) infoSh1 R5.out (by simp [pRow]) trivial ?_
        refine plan_nil ?_
        have E8 := Lib.hid (pv_shelf HV.out HE.out B2.out O2.out ((Below.refl _ w2).alloc (Nat.le_refl _) _) A5.out B5.out (by rw [← HM.out]; exact O5.out) HN.out (R5.out.set 2 (.slice a5 (M + 1) c5)) (fun k hk => heap_setCell_other w5 ⟨br, 2, none⟩ k _ hk) (fun B a hB hle => hB.setCell hle _))
        have c8 : (w5.setCell ⟨br, 2, none⟩ (.slice a5 (M + 1) c5)).cell? ⟨br, 2, none⟩ = some (.slice a5 (M + 1) c5) := by rw [(R5.out.set 2 (.slice a5 (M + 1) c5)).cell]; rfl
        generalize w5.setCell ⟨br, 2, none⟩ (.slice a5 (M + 1) c5) = w8 at *
        go_wp2_with fail
        go_ret2
        exact ⟨rfl, StEnd.trans ((Chg.refl F w).drew) (fun k hk => .inl hk) (pv_end E8.out.1 E8.out.2)⟩
      · refine plan_slice 29 27 1 _ #[.slice a2 L c2] (by rfl) (by rfl) (by rfl) Try.underlying29 (by kernel_rfl) trivial ?_
        (simp only [Act.put, List.setIfInBounds_toArray, List.set_cons_zero, List.set_cons_succ])
        refine plan_sole_cell 29 _ _ (.slice asx M caps) _ (by rfl) (by rfl) (by rfl) (by first | (with_reducible exact Mem.ev_const _ _) | (with_reducible exact Mem.ev_zero _ _ _) | (with_reducible (apply Eq.trans (Mem.ev_tmp _ _ _)); simp only [List.getD_cons_succ, List.getD_cons_zero] <;> rfl)) (by first | exact C1.out | exact C2.out | exact C3.out) Try.underlying29 (by rfl) trivial ?_
        (simp only [Act.put, List.setIfInBounds_toArray, List.set_cons_zero, List.set_cons_succ])
        refine plan_append_app _ _ 29 (by rfl) (by rfl) (by rfl) (.slice (some ⟨w2.heap.size, 0, none⟩) 1 1) M 1 1 [.slice a2 L c2] (.slice none 0 0) 24 elemRS (by rfl) (by decide) (by first | (with_reducible exact Mem.ev_const _ _) | (with_reducible exact Mem.ev_zero _ _ _) | (with_reducible (apply Eq.trans (Mem.ev_tmp _ _ _)); simp only [List.getD_cons_succ, List.getD_cons_zero] <;> rfl)) OW.out (by first | (with_reducible exact Mem.ev_const _ _) | (with_reducible exact Mem.ev_zero _ _ _) | (with_reducible (apply Eq.trans (Mem.ev_tmp _ _ _)); simp only [List.getD_cons_succ, List.getD_cons_zero] <;> rfl)) (by exact rdR_new (e := 27) (C := #[.slice a2 L c2])) (by simp [Value.oneCell']) (by omega) (by omega) (by omega) ?_
        intro v5 w5 ho5 ha5 hb5
        obtain ⟨a5, c5, rfl⟩ := rows_hd ho5
        have O5 := Lib.hid ho5; have A5 := Lib.hid ha5; have B5 := Lib.hid hb5
        have R5 : Hid (At w5 br (pRow bb N vw (.slice asx M caps) vt) 62) := at_appd (((HROW.out.below B2.out HV.out.blt)).alloc _) A5.out NE.out
        clear ho5 ha5 hb5
        refine ⟨trivial, ?_⟩
        (simp only [Act.put, List.setIfInBounds_toArray, List.set_cons_zero, List.set_cons_succ])
        refine plan_nilcheck _ ⟨br, 0, none⟩ (by rfl) (by rfl) (by rfl) (by first | (with_reducible exact Mem.ev_const _ _) | (with_reducible exact Mem.ev_zero _ _ _) | (with_reducible (apply Eq.trans (Mem.ev_tmp _ _ _)); simp only [List.getD_cons_succ, List.getD_cons_zero] <;> rfl)) ?_
        (simp only [Act.put, List.setIfInBounds_toArray, List.set_cons_zero, List.set_cons_succ])
        refine plan_field 62 _ 2 br 0 ⟨br, 2, none⟩ (by rfl) (by rfl) (by rfl) (by first | (with_reducible exact Mem.ev_const _ _) | (with_reducible exact Mem.ev_zero _ _ _) | (with_reducible (apply Eq.trans (Mem.ev_tmp _ _ _)); simp only [List.getD_cons_succ, List.getD_cons_zero] <;> rfl)) (fun wx => by go_simp) ?_
        (simp only [Act.put, List.setIfInBounds_toArray, List.set_cons_zero, List.set_cons_succ])
        refine plan_store_one 29 _ _ br 2 (.slice a5 (M + 1) c5) _ 62 (by rfl) (by rfl) (by rfl) (by rfl) (by first | (with_reducible exact Mem.ev_const _ _) | (with_reducible exact Mem.ev_zero _ _ _) | (with_reducible (apply Eq.trans (Mem.ev_tmp _ _ _)); simp only [List.getD_cons_succ, List.getD_cons_zero] <;> rfl)) (by first | (with_reducible exact Mem.ev_const _ _) | (with_reducible exact Mem.ev_zero _ _ _) | (with_reducible (apply Eq.trans (Mem.ev_tmp _ _ _)); simp only [List.getD_cons_succ, List.getD_cons_zero] <;> rfl)) (by rfl) infoSh1 R5.out (by simp [pRow]) trivial ?_
        refine plan_nil ?_
        have E8 := Lib.hid (pv_shelf HV.out HE.out B2.out O2.out ((Below.refl _ w2).alloc (Nat.le_refl _) _) A5.out B5.out (by rw [← HM.out]; exact O5.out) HN.out (R5.out.set 2 (.slice a5 (M + 1) c5)) (fun k hk => heap_setCell_other w5 ⟨br, 2, none⟩ k _ hk) (fun B a hB hle => hB.setCell hle _))
        have c8 : (w5.setCell ⟨br, 2, none⟩ (.slice a5 (M + 1) c5)).cell? ⟨br, 2, none⟩ = some (.slice a5 (M + 1) c5) := by rw [(R5.out.set 2 (.slice a5 (M + 1) c5)).cell]; rfl
        generalize w5.setCell ⟨br, 2, none⟩ (.slice a5 (M + 1) c5) = w8 at *
        go_wp2_with fail
        go_ret2
        exact ⟨rfl, StEnd.trans ((Chg.refl F w).drew) (fun k hk => .inl hk) (pv_end E8.out.1 E8.out.2)⟩
end Sha
end Go.Proofs.Ytkgpcgkikenljaa
