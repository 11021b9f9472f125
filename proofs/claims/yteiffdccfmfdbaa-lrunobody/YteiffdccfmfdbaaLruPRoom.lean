/- The program's cache: its account by what is held; makeRoom. -/
import Derived.Test.YteiffdccfmfdbaaLruPMath
namespace Go.Proofs.Yteiffdccfmfdbaa
namespace Sha
open Go.RowKit Mem Lru
/-- The cache at block b, all its memory in blocks of F, holds l. -/
structure PCa (F : Foot) (b : Nat) (w : World) (room n : Nat) (l : List Hd) : Prop where
  raw : PRaw F b w room n (pgOf l) (pinOf l) (osOf l)
  ok : Ok n l
  r1 : 1 ≤ room
  r2 : room ≤ 1024
theorem PCa.keep {F : Foot} {b : Nat} {w w' : World} {room n : Nat} {l : List Hd} (h : PCa F b w room n l) (hs : w.heap.size ≤ w'.heap.size) (hk : ∀ k, F k → k < w.heap.size → w'.heap[k]? = w.heap[k]?) : PCa F b w' room n l := ⟨h.raw.keep hs hk, h.ok, h.r1, h.r2⟩
def CEnd (R : Foot → Nat → World → Nat → Nat → List Hd → Prop) (F : Foot) (b : Nat) (w : World) (room n : Nat) (l : List Hd) (w' : World) : Prop := (∃ F', R F' b w' room n l ∧ ∀ k, F' k → F k ∨ w.heap.size ≤ k) ∧ Chg F w w'
theorem cend_of {F : Foot} {b : Nat} {w w' : World} {room n : Nat} {l : List Hd} {pg : Int → Option (List (BitVec 8))} {pn : Int → Bool} {os : List Int} (h : REnd F b w room n pg pn os w') (e1 : pgOf l = pg) (e2 : pinOf l = pn) (e3 : osOf l = os) (ok : Ok n l) (r1 : 1 ≤ room) (r2 : room ≤ 1024) : CEnd PCa F b w room n l w' := by
  subst e1; subst e2; subst e3
  obtain ⟨⟨F', h1, h2⟩, h3⟩ := h
  exact ⟨⟨F', ⟨h1, ok, r1, r2⟩, h2⟩, h3⟩
theorem CEnd.trans {F F1 : Foot} {b : Nat} {w w1 w2 : World} {room n : Nat} {l : List Hd} (hF : ∀ k, F1 k → F k ∨ w.heap.size ≤ k) (hc : Chg F w w1) (h : CEnd PCa F1 b w1 room n l w2) : CEnd PCa F b w room n l w2 := by
  obtain ⟨⟨F', h1, h2⟩, h3⟩ := h
  exact ⟨⟨F', h1, fun k hk => (h2 k hk).elim (hF k) fun h => .inr (Nat.le_trans hc.size h)⟩, hc.trans h3 hF⟩
theorem cend_same {F : Foot} {b : Nat} {w w' : World} {room n : Nat} {l : List Hd} (h : PCa F b w room n l) (hb : Below w.heap.size w w') : CEnd PCa F b w room n l w' :=
  ⟨⟨F, h.keep hb.size fun k _ hlt => hb.block k hlt, fun _ hk => .inl hk⟩, Chg.of_below hb⟩
set_option maxRecDepth 100000 in
set_option maxHeartbeats 4000000 in
theorem proom_any {F : Foot} {b room n : Nat} {l : List Hd} (w : World) (h : PCa F b w room n l) (hnn : n ≤ 1000000) : Calls Try.prog 34 #[cq b] w fun e w' => e = .returned (.int .i64 (fit room l).2) ∧ CEnd PCa F b w room n (fit room l).1 w' := by
  obtain ⟨⟨bm, bp, v, f, hv⟩, ok, r1, r2⟩ := h
  have c0 : w.drew.cell? ⟨b, 0, none⟩ = some (.int .i64 (room : Int)) := by show w.cell? _ = _; rw [hv.row.cell]; rfl
  have c1 : w.drew.cell? ⟨b, 1, none⟩ = some (.map (some bm)) := by show w.cell? _ = _; rw [hv.row.cell]; rfl
  have c2 : w.drew.cell? ⟨b, 2, none⟩ = some (.map (some bp)) := by show w.cell? _ = _; rw [hv.row.cell]; rfl
  have c3 : w.drew.cell? ⟨b, 3, none⟩ = some v := by show w.cell? _ = _; rw [hv.row.cell]; rfl
  have hmm := hv.mm.drew
  have hmp := hv.mp.drew
  have hlen := len_parts l
  obtain ⟨m, hm⟩ : ∃ m : Nat, m = (items l).length := ⟨_, rfl⟩
  obtain ⟨q, hq⟩ : ∃ q : Nat, q = (items (pns l)).length := ⟨_, rfl⟩
  have hml : m = l.length := by rw [hm]; simp [items]
  have hql : q = (pns l).length := by rw [hq]; simp [items]
  have hm2 : m ≤ 1000000 := by have := ok.len; omega
  have hu : (unH l).length = m - q := by omega
  have hqm : q ≤ m := by omega
  have l1 : (Builtin.len_ #[54] 3 #[.map (some bm)]).run Try.prog w.drew = .ok (.int .i64 (m : Int)) w.drew := by rw [hm]; exact hmm.len uInt uPg _ ok.nd fun x => mem_pgs l hv.same x
  have l2 : (Builtin.len_ #[57] 3 #[.map (some bp)]).run Try.prog w.drew = .ok (.int .i64 (q : Int)) w.drew := by rw [hq]; exact hmp.len uInt uPn _ (pns_nodup ok.nd) fun x => mem_pns ok.nd x
  have hP : PCa F b w room n l := ⟨⟨bm, bp, v, f, hv⟩, ok, r1, r2⟩
  have hS : SlI w v (osOf l) := ownV_sli hv.own
  have H := Lib.hid hP; have L1 := Lib.hid l1; have L2 := Lib.hid l2; have SS := Lib.hid hS; have HU := Lib.hid hu; have HML := Lib.hid hml
  clear hP l1 l2 hS hlen hm hq hml hql hu hmm hmp hv ok hnn
  obtain ⟨a, c, hvv⟩ := SlI.hd SS.out
  rw [osOf_len, ← HML.out] at hvv
  rw [hvv] at SS c3
  clear hvv
  go_enter Try.func34, Try.ntmps34
  go_wp2_with fail
  refine wp_region_plan_in (fun x => x = w.drew) (.take 0 (.take 1 (.take 2 (.take 3 (.take 4 (.take 5 (.take 6 (.take 7 (.take 8 (.take 9 (.take 10 (.take 11 (.take 12 (.take 13 (.take 14 (.take 15 .done)))))))))))))))) (by kernel_rfl) (by kernel_rfl) (by kernel_rfl) rfl ?_
  (first | (refine plan_move _ _ (by rfl) (by rfl) (.inl (by rfl)) Mem.ev_a ?_) | (refine plan_move _ _ (by rfl) (by rfl) (.inr (by rfl)) Mem.ev_a ?_) | (refine plan_pick_t _ _ _ _ (by rfl) (by rfl) (by rfl) Mem.ev_a Mem.ev_a ?_) | (refine plan_pick_f _ _ _ _ (by rfl) (by rfl) (by rfl) Mem.ev_a Mem.ev_a ?_))
  (simp only [Act.put, List.setIfInBounds_toArray, List.set_cons_zero, List.set_cons_succ])
  refine plan_nilcheck _ ⟨b, 0, none⟩ (by rfl) (by rfl) (by rfl) Mem.ev_a ?_
  (simp only [Act.put, List.setIfInBounds_toArray, List.set_cons_zero, List.set_cons_succ])
  refine plan_field 59 _ 1 b 0 ⟨b, 1, none⟩ (by rfl) (by rfl) (by rfl) Mem.ev_a (fun wx => by go_simp) ?_
  (simp only [Act.put, List.setIfInBounds_toArray, List.set_cons_zero, List.set_cons_succ])
  refine plan_cell 54 _ _ (.map (some bm)) _ (by rfl) (by rfl) (by rfl) Mem.ev_a (fun w' hw' => by subst hw'; exact c1) Try.underlying54 (by rfl) ?_
  (simp only [Act.put, List.setIfInBounds_toArray, List.set_cons_zero, List.set_cons_succ])
  refine plan_len_map 54 _ _ (.int .i64 (m : Int)) (by rfl) (by rfl) (by rfl) Mem.ev_a (fun w' hw' => by subst hw'; exact L1.out) ?_
  (simp only [Act.put, List.setIfInBounds_toArray, List.set_cons_zero, List.set_cons_succ])
  (first | (refine plan_move _ _ (by rfl) (by rfl) (.inl (by rfl)) Mem.ev_a ?_) | (refine plan_move _ _ (by rfl) (by rfl) (.inr (by rfl)) Mem.ev_a ?_) | (refine plan_pick_t _ _ _ _ (by rfl) (by rfl) (by rfl) Mem.ev_a Mem.ev_a ?_) | (refine plan_pick_f _ _ _ _ (by rfl) (by rfl) (by rfl) Mem.ev_a Mem.ev_a ?_))
  (simp only [Act.put, List.setIfInBounds_toArray, List.set_cons_zero, List.set_cons_succ])
  refine plan_nilcheck _ ⟨b, 0, none⟩ (by rfl) (by rfl) (by rfl) Mem.ev_a ?_
  (simp only [Act.put, List.setIfInBounds_toArray, List.set_cons_zero, List.set_cons_succ])
  refine plan_field 59 _ 2 b 0 ⟨b, 2, none⟩ (by rfl) (by rfl) (by rfl) Mem.ev_a (fun wx => by go_simp) ?_
  (simp only [Act.put, List.setIfInBounds_toArray, List.set_cons_zero, List.set_cons_succ])
  refine plan_cell 57 _ _ (.map (some bp)) _ (by rfl) (by rfl) (by rfl) Mem.ev_a (fun w' hw' => by subst hw'; exact c2) Try.underlying57 (by rfl) ?_
  (simp only [Act.put, List.setIfInBounds_toArray, List.set_cons_zero, List.set_cons_succ])
  refine plan_len_map 57 _ _ (.int .i64 (q : Int)) (by rfl) (by rfl) (by rfl) Mem.ev_a (fun w' hw' => by subst hw'; exact L2.out) ?_
  (simp only [Act.put, List.setIfInBounds_toArray, List.set_cons_zero, List.set_cons_succ])
  refine plan_bin .sub _ _ _ _ _ _ (.int .i64 ((m : Int) - (q : Int))) (by rfl) (by rfl) (by rfl) Mem.ev_a Mem.ev_a (fun w' => by go_simp; exact i64_id _ (by omega) (by omega)) ?_
  (simp only [Act.put, List.setIfInBounds_toArray, List.set_cons_zero, List.set_cons_succ])
  (first | (refine plan_move _ _ (by rfl) (by rfl) (.inl (by rfl)) Mem.ev_a ?_) | (refine plan_move _ _ (by rfl) (by rfl) (.inr (by rfl)) Mem.ev_a ?_) | (refine plan_pick_t _ _ _ _ (by rfl) (by rfl) (by rfl) Mem.ev_a Mem.ev_a ?_) | (refine plan_pick_f _ _ _ _ (by rfl) (by rfl) (by rfl) Mem.ev_a Mem.ev_a ?_))
  (simp only [Act.put, List.setIfInBounds_toArray, List.set_cons_zero, List.set_cons_succ])
  refine plan_nilcheck _ ⟨b, 0, none⟩ (by rfl) (by rfl) (by rfl) Mem.ev_a ?_
  (simp only [Act.put, List.setIfInBounds_toArray, List.set_cons_zero, List.set_cons_succ])
  refine plan_field 59 _ 0 b 0 ⟨b, 0, none⟩ (by rfl) (by rfl) (by rfl) Mem.ev_a (fun wx => by go_simp) ?_
  (simp only [Act.put, List.setIfInBounds_toArray, List.set_cons_zero, List.set_cons_succ])
  refine plan_cell 3 _ _ (.int .i64 (room : Int)) _ (by rfl) (by rfl) (by rfl) Mem.ev_a (fun w' hw' => by subst hw'; exact c0) Try.underlying3 (by rfl) ?_
  (simp only [Act.put, List.setIfInBounds_toArray, List.set_cons_zero, List.set_cons_succ])
  refine plan_bin .leq _ _ _ _ _ _ (.bool (decide ((m : Int) - (q : Int) ≤ (room : Int)))) (by rfl) (by rfl) (by rfl) Mem.ev_a Mem.ev_a (fun w' => by go_simp) ?_
  (simp only [Act.put, List.setIfInBounds_toArray, List.set_cons_zero, List.set_cons_succ])
  refine plan_nil ?_
  by_cases hfit : m - q ≤ room
  · have e1 : decide ((m : Int) - (q : Int) ≤ (room : Int)) = true := decide_eq_true (by omega)
    rw [e1]
    have e2 : fit room l = (l, -1) := by unfold fit; rw [if_pos (by rw [HU.out]; exact hfit)]
    have E2 := Lib.hid e2
    clear e1 e2 c0 c1 c2 c3 hfit
    go_wp2_with fail
    go_ret
    rw [E2.out]
    exact ⟨rfl, cend_same H.out ⟨rfl, rfl, rfl, Nat.le_refl _, fun _ _ => rfl⟩⟩
  · have e1 : decide ((m : Int) - (q : Int) ≤ (room : Int)) = false := decide_eq_false (by omega)
    rw [e1]
    have hgt : room < (unH l).length := by rw [HU.out]; omega
    have HG := Lib.hid hgt
    clear e1 hgt c0 c1 c2 hfit hqm
    have hw0 : Below w.heap.size w w.drew := ⟨rfl, rfl, rfl, Nat.le_refl _, fun _ _ => rfl⟩
    have B0 := Lib.hid hw0
    clear hw0
    generalize w.drew = wd at *
    go_wp2_with fail
    go_loopw [4, 26] (fun a4 a26 wr => ∃ k : Nat, k ≤ m ∧ a26 = .int .i64 (k : Int) ∧ (∃ u, u = a4) ∧ Below w.heap.size w wr ∧ ∀ j, j < k → pinOf l ((osOf l).getD j 0) = true) (fun _ i _ => m - (Go.RowKit.intOf i).toNat)
    case atStart => exact ⟨0, Nat.zero_le _, rfl, ⟨_, rfl⟩, B0.out, fun j hj => absurd hj (Nat.not_lt_zero _)⟩
    case round =>
      obtain ⟨k, hk, rfl, ⟨u0, rfl⟩, hb, hall⟩ := hrel
      have HB := Lib.hid hb
      by_cases hlt : k < m
      · have hcell := sli_at (SS.out.below (hb.mono (Nat.le_refl _))) (by rw [osOf_len]; exact HML.out) hlt
        obtain ⟨g, o, rfl, _, hcell⟩ := hcell
        have hP : PCa F b wr room n l := H.out.keep hb.size fun k _ hlt => hb.block k hlt
        have hwf := os_wf H.out.ok (k := k) (by rw [← HML.out]; exact hlt)
        obtain ⟨y, hy⟩ : ∃ y, y = (osOf l).getD k 0 := ⟨_, rfl⟩
        rw [← hy] at hcell hwf
        have hpi := pisp_raw y wr hP.raw hwf.1
        obtain ⟨z, hz⟩ : ∃ z, z = pinOf l y := ⟨_, rfl⟩
        rw [← hz] at hpi
        have HP := Lib.hid hP; have HW := Lib.hid hwf; have PI := Lib.hid hpi; have HA := Lib.hid hall; have HY := Lib.hid hy; have HZ := Lib.hid hz
        clear hP hwf hpi hall hy hz hb
        cases z with
        | true =>
          go_wp2_with (go_at_call 33; refine PI.out.mono ?_; rintro e w2 ⟨rfl, hb2⟩; have HB2 : Hid (Below w.heap.size w w2) := Lib.hid (HB.out.trans (hb2.mono HB.out.size)); clear hb2 hcell)
          go_roundw
          case rel =>
            refine ⟨k + 1, by omega, by go_num, ⟨_, rfl⟩, HB2.out, fun j hj => ?_⟩
            by_cases e : j = k
            · subst e; rw [← HY.out, ← HZ.out]
            · exact HA.out j (by omega)
          case measure => simp [Go.RowKit.intOf]; omega
        | false =>
          have HX : Hid (pinOf l ((osOf l).getD k 0) = false) := Lib.hid (by rw [← HY.out, ← HZ.out])
          go_wp2_with (first
            | (go_at_call 33; refine PI.out.mono ?_; rintro e w2 ⟨rfl, hb2⟩; have HP2 : Hid (PCa F b w2 room n l) := Lib.hid (HP.out.keep hb2.size fun k _ hlt => hb2.block k hlt); have HB2 : Hid (Below w.heap.size w w2) := Lib.hid (HB.out.trans (hb2.mono HB.out.size)); clear hb2 hcell)
            | (go_at_call 17; refine (pdrop_raw y w2 HP2.out.raw HW.out.1 (osOf_nodup HP2.out.ok.nd) HW.out.2).mono ?_; rintro e w3 ⟨rfl, hr⟩; have HR := Lib.hid hr; clear hr))
          go_ret
          have e2 := fit_at H.out.ok HG.out (k := k) (by rw [← HML.out]; exact hlt) HA.out HX.out
          rw [← HY.out] at e2
          rw [e2]
          refine ⟨rfl, CEnd.trans (F1 := F) (fun k hk => .inl hk) (Chg.of_below HB2.out) (cend_of HR.out (pgOf_rest _ _) (pinOf_rest _ _) (osOf_rest _ _) (ok_rest H.out.ok _) H.out.r1 H.out.r2)⟩
      · have hkm : k = m := by omega
        subst hkm
        exact absurd (fun j hj => hall j (by rw [HML.out]; exact hj)) (fit_some H.out.ok (Nat.lt_of_le_of_lt (Nat.zero_le _) HG.out))
end Sha
end Go.Proofs.Yteiffdccfmfdbaa
