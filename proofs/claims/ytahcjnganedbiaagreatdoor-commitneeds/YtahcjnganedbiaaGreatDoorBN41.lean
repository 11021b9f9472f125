/- The document's commit: May (written by comrmay.py). -/
import Derived.Test.YtahcjnganedbiaaGreatDoorBN39
import Derived.Test.YtahcjnganedbiaaGreatDoorBN36
namespace Go.Proofs.YtahcjnganedbiaaGreatDoor
namespace Sha
open Go.RowKit Mem
set_option maxRecDepth 100000
def okD (p : Nat) (C : List ChV) (i : Nat) : Prop := (0 ≤ (C.getD i zch).1 ∧ (C.getD i zch).1 < (p : Int)) ∧ (C.getD i zch).2.length = 256 ∧ (0 < i → (C.getD (i - 1) zch).1 < (C.getD i zch).1)
theorem find_none (N : List NdV) (z : Int) (h : (findT N z).isSome = false) : findD N z = [] := by
 unfold findD
 cases e : findT N z with
 | none => rfl
 | some x => rw [e] at h; exact Bool.noConfusion h
theorem all_plOk (L : List RefV) (h : ∀ k, k < L.length → plOk (L.getD k zref) = true) : L.all plOk = true := by
 rw [List.all_eq_true]
 intro r hr
 obtain ⟨k, hk, e⟩ := List.mem_iff_getElem.1 hr
 have := h k hk
 rw [List.getD_eq_getElem?_getD, List.getElem?_eq_getElem hk, Option.getD_some, e] at this
 exact this
theorem not_plOk (L : List RefV) (k : Nat) (hk : k < L.length) (h : plOk (L.getD k zref) = false) : L.all plOk = false := by
 rw [List.all_eq_false]
 refine ⟨L.getD k zref, ?_, by rw [h]; decide⟩
 rw [List.getD_eq_getElem?_getD, List.getElem?_eq_getElem hk]
 exact List.getElem_mem hk
set_option maxHeartbeats 8000000 in
theorem rmay16_any (p : Nat) (vL vF : Value) (N : List NdV) (C : List ChV) (vn vc : Value) (w : World) (hR : RS w p vL vF) (hn : SlNd w vn N) (hc : SlCh w vc C) (hN : NdWf N) (h0 : 1 ≤ p) (h1 : p ≤ 216) (hl : C.length ≤ 1000) : Calls Tryz.prog 19 #[.agg (rsC p vL vF), vn, vc] w (VEnd (.bool (mayT p N C)) w) := by
 have pg := fun wx h => rpages16_any C vc wx h hl
 have nd := fun vx wx h h' => rneed16_any p vL vF (pgsC C) vx wx h h0 h1 h' (by rw [pgsC_length]; exact hl)
 have fd := fun (z : Int) wx h => rfind16_any N z vn wx h hN.n
 have kd := fun (z : Int) wx h => rkids_any p vL vF z wx h h0 h1
 have rr := fun r wx h => rright_any r wx h
 have hfw := fun z => findD_wf hN.w z
 have hgt := fun j hj => needI_get p (pgsC C) j hj
 have hkz := fun i (a : p ≤ i) (b : i < itn p) => KZ_node p i a b
 have hmp := fun i (a : p ≤ i) (b : i < itn p) => (node_kids p i h0 h1 a b).1
 have hok : ∀ i : Nat, nodeOk p N i = (decide ((findD N (i : Int)).length = many p i) && (findD N (i : Int)).all plOk) := fun _ => rfl
 have hfn := fun z h => find_none N z h
 have hno0 : decide (riseT p C) = false → mayT p N C = false := fun h => by unfold mayT; rw [h, Bool.false_and]
 have hno := fun j i hj hi h => may_no p N C j i hj hi h
 have hyes := fun hr h => may_all p N C hr h
 have hm6 := fun i => many_le p i
 have rno : ∀ j, j < C.length → ¬ okD p C j → decide (riseT p C) = false := fun j hj h => decide_eq_false fun g => h (g j hj)
 have ryes : (∀ j, j < C.length → okD p C j) → decide (riseT p C) = true := fun h => decide_eq_true h
 obtain ⟨R, hRR⟩ : ∃ R, R = decide (riseT p C) := ⟨_, rfl⟩
 rw [← hRR] at hno0 hyes rno ryes
 obtain ⟨Y, hY⟩ : ∃ Y, Y = mayT p N C := ⟨_, rfl⟩
 rw [← hY] at hno0 hno hyes ⊢
 obtain ⟨KS, hKS⟩ : ∃ K, K = needI p (pgsC C) := ⟨_, rfl⟩
 rw [← hKS] at nd hno hyes hgt
 obtain ⟨n, hnn⟩ : ∃ n, n = KS.length := ⟨_, rfl⟩
 have hn259 : n ≤ 259 := by rw [hnn, hKS]; exact needI_len p _ h1
 rw [← hnn] at hno hyes hgt
 have ha := at_new w (rsC p vL vF) 31
 have hb : Below w.heap.size w (w.alloc (.cells (rsC p vL vF) 31)) := (Below.refl _ _).alloc (Nat.le_refl _) _
 have ms : (rsC p vL vF).size = 3 := rfl
 have m0 : (rsC p vL vF)[0]? = some (.int .i64 (p : Int)) := rfl
 obtain ⟨M, hM⟩ : ∃ M, M = rsC p vL vF := ⟨_, rfl⟩
 rw [← hM] at nd kd ha hb ms m0 ⊢
 obtain ⟨an, cn, rfl⟩ := hn.hd
 obtain ⟨ac, cc, rfl⟩ := hc.hd
 obtain ⟨nN, hnN⟩ : ∃ n, n = N.length := ⟨_, rfl⟩
 obtain ⟨nC, hnC⟩ : ∃ n, n = C.length := ⟨_, rfl⟩
 rw [← hnN] at hn fd ⊢
 rw [← hnC] at hc pg rno ryes hl ⊢
 have PGS := zh pg; have NDD := zh nd; have FD := zh fd; have KD := zh kd; have RR := zh rr; have FW := zh hfw; have GT := zh hgt; have KZN := zh hkz; have MP := zh hmp; have OK := zh hok; have FN := zh hfn
 have NO0 := zh hno0; have NO := zh hno; have YES := zh hyes; have M6 := zh hm6; have RNO := zh rno; have RYES := zh ryes; have HNN := zh hnn; have HA := zh ha; have HB := zh hb; have MS := zh ms; have M0 := zh m0; have HVN := zh hn; have HVC := zh hc; have HC := zh hnC; have HRS := zh hR
 clear pg nd fd kd rr hfw hgt hkz hmp hok hfn hno0 hno hyes hm6 rno ryes hnn ha hb ms m0 hn hc hRR hY hKS hM hN hnN hnC hR
 go_enter Tryz.func19, Tryz.ntmps19
 go_upto_region 1 with fail
 generalize w.alloc (.cells M 31) = w1 at *
 go_wp2_with fail
 go_loopw [7] (fun vi wr => ∃ j : Nat, j ≤ nC ∧ vi = .int .i64 (j : Int) ∧ (∀ j', j' < j → okD p C j') ∧ Below w.heap.size w wr ∧ At wr w.heap.size M 31) (fun vi _ => nC - (intOf vi).toNat)
 case atStart => exact ⟨0, by omega, rfl, fun j' h => by omega, HB.out, HA.out⟩
 case round =>
  obtain ⟨j, hj, rfl, hal, hbw, haw⟩ := hrel
  have BW := zh hbw; have AW := zh haw; have AL := zh hal
  clear hal hbw haw
  by_cases hlt : j < nC
  ·have hlt' : (j : Int) < (nC : Int) := by omega
   have HVW := zh (HVC.out.below BW.out)
   obtain ⟨b1, o1, u, e1, hlb, cz0, cu0, hsu⟩ := slch_at (i := j) HVW.out HC.out hlt
   subst e1
   have hpv : 0 < j → wr.cell? ⟨b1, o1 + (j - 1) * 2, none⟩ = some (.int .i64 (C.getD (j - 1) zch).1) := fun h => by
    obtain ⟨b2, o2, u2, e2, _, c2, _, _⟩ := slch_at (i := j - 1) HVW.out HC.out (by omega)
    injection e2 with e2
    injection e2 with e2 e3 _
    subst e2 e3
    exact c2
   have hok : okD p C j ↔ ((0 ≤ (C.getD j zch).1 ∧ (C.getD j zch).1 < (p : Int)) ∧ (C.getD j zch).2.length = 256 ∧ (0 < j → (C.getD (j - 1) zch).1 < (C.getD j zch).1)) := Iff.rfl
   have hrn := fun h => RNO.out j hlt h
   have hnx : okD p C j → ∀ j', j' < j + 1 → okD p C j' := fun h j' hj' => (Nat.lt_or_ge j' j).elim (AL.out j') (fun g => by rw [show j' = j by omega]; exact h)
   obtain ⟨x, hx⟩ : ∃ x, x = (C.getD j zch).2 := ⟨_, rfl⟩
   obtain ⟨z, hz⟩ : ∃ z, z = (C.getD j zch).1 := ⟨_, rfl⟩
   obtain ⟨zp, hzp⟩ : ∃ z, z = (C.getD (j - 1) zch).1 := ⟨_, rfl⟩
   obtain ⟨PJ, hPJ⟩ : ∃ P : Prop, P = okD p C j := ⟨_, rfl⟩
   rw [← hPJ] at hok hrn hnx
   rw [← hx] at hsu hok
   rw [← hz] at hok cz0
   rw [← hzp] at hok hpv
   obtain ⟨a3, c3, rfl⟩ := sl_inv hsu
   obtain ⟨m, hm⟩ : ∃ m, m = x.length := ⟨_, rfl⟩
   rw [← hm] at hok cu0
   have LB1 := zh hlb; have CZ := zh cz0; have CU := zh cu0; have CP := zh hpv; have OKJ := zh hok; have RNJ := zh hrn; have NXJ := zh hnx
   have CM : Hid (wr.cell? ⟨w.heap.size, 0, none⟩ = some (.int .i64 (p : Int))) := zh ((AW.out.cell 0).trans M0.out)
   clear hlb cz0 cu0 hpv hok hrn hnx hsu hx hz hzp hPJ hm HVW
   by_cases g1 : z < 0
   ·have HY := zh (NO0.out (RNJ.out fun h => by have := OKJ.out.1 h; omega))
    have LT : Hid (decide (z < 0) = true) := zh (decide_eq_true g1)
    clear g1
    go_upto_region 4 with fail
    refine wp_region_plan_in (fun x' => Below wr.heap.size wr x') (.take 0 (.take 1 (.take 2 (.take 3 (.take 4 (.take 5 (.take 6 (.take 7 (.take 8 (.take 9 (.take 10 (.take 11 (.take 12 (.take 13 (.take 14 (.take 15 (.take 16 (.take 17 (.take 18 (.take 19 (.take 20 (.take 21 (.take 22 (.take 23 (.take 24 (.take 25 (.take 26 (.take 27 (.take 28 (.take 29 (.take 30 (.take 31 (.take 32 (.take 33 (.take 34 (.take 35 (.take 36 (.take 37 (.take 38 (.take 39 (.take 40 (.take 41 (.take 42 .done))))))))))))))))))))))))))))))))))))))))))) (by kernel_rfl) (by kernel_rfl) (by kernel_rfl) (Below.refl _ _).drew ?_
    (first | refine Mem.pm1 ?_ | refine Mem.pm2 ?_ | refine Mem.pt ?_ | refine Mem.pf ?_)
    (simp only [Act.put, Mem.pa, Mem.pb, Mem.pc])
    (first | refine Mem.pm1 ?_ | refine Mem.pm2 ?_ | refine Mem.pt ?_ | refine Mem.pf ?_)
    (simp only [Act.put, Mem.pa, Mem.pb, Mem.pc])
    refine plan_index_z 23 38 _ _ b1 o1 nC cc 2 j zr zr zr Mem.ev_a Mem.ev_a (by omega) Tryz.underlying23 (by kernel_rfl) ?_
    (simp only [Act.put, Mem.pa, Mem.pb, Mem.pc])
    refine plan_field 38 _ 0 b1 (o1 + j * 2) ⟨b1, o1 + j * 2, none⟩ zr zr zr Mem.ev_a (fun wx => by go_simp) ?_
    (simp only [Act.put, Mem.pa, Mem.pb, Mem.pc])
    refine plan_cell 3 _ _ (.int .i64 z) _ zr zr zr Mem.ev_a (fun w' hw' => (hw'.cell (p := ⟨b1, o1 + j * 2, none⟩) LB1.out).trans CZ.out) Tryz.underlying3 zr ?_
    (simp only [Act.put, Mem.pa, Mem.pb, Mem.pc])
    refine plan_bin _ _ _ _ _ _ _ (.bool true) zr zr zr Mem.ev_a zr (fun wx => o_ilt1 z 0 true LT.out _ _ _ _ wx) ?_
    (simp only [Act.put, Mem.pa, Mem.pb, Mem.pc])
    (first | refine Mem.pm1 ?_ | refine Mem.pm2 ?_ | refine Mem.pt ?_ | refine Mem.pf ?_)
    (simp only [Act.put, Mem.pa, Mem.pb, Mem.pc])
    refine plan_skip zr zr ?_
    (simp only [Act.put, Mem.pa, Mem.pb, Mem.pc])
    refine plan_skip zr zr ?_
    (simp only [Act.put, Mem.pa, Mem.pb, Mem.pc])
    refine plan_skip zr zr ?_
    (simp only [Act.put, Mem.pa, Mem.pb, Mem.pc])
    refine plan_skip zr zr ?_
    (simp only [Act.put, Mem.pa, Mem.pb, Mem.pc])
    refine plan_skip zr zr ?_
    (simp only [Act.put, Mem.pa, Mem.pb, Mem.pc])
    refine plan_skip zr zr ?_
    (simp only [Act.put, Mem.pa, Mem.pb, Mem.pc])
    refine plan_skip zr zr ?_
    (simp only [Act.put, Mem.pa, Mem.pb, Mem.pc])
    refine plan_skip zr zr ?_
    (simp only [Act.put, Mem.pa, Mem.pb, Mem.pc])
    refine plan_pick_t _ _ _ _ zr zr zr Mem.ev_a Mem.ev_a ?_
    (simp only [Act.put, Mem.pa, Mem.pb, Mem.pc])
    (first | refine Mem.pm1 ?_ | refine Mem.pm2 ?_ | refine Mem.pt ?_ | refine Mem.pf ?_)
    (simp only [Act.put, Mem.pa, Mem.pb, Mem.pc])
    refine plan_skip zr zr ?_
    (simp only [Act.put, Mem.pa, Mem.pb, Mem.pc])
    refine plan_skip zr zr ?_
    (simp only [Act.put, Mem.pa, Mem.pb, Mem.pc])
    refine plan_skip zr zr ?_
    (simp only [Act.put, Mem.pa, Mem.pb, Mem.pc])
    refine plan_skip zr zr ?_
    (simp only [Act.put, Mem.pa, Mem.pb, Mem.pc])
    refine plan_skip zr zr ?_
    (simp only [Act.put, Mem.pa, Mem.pb, Mem.pc])
    refine plan_skip zr zr ?_
    (simp only [Act.put, Mem.pa, Mem.pb, Mem.pc])
    refine plan_skip zr zr ?_
    (simp only [Act.put, Mem.pa, Mem.pb, Mem.pc])
    refine plan_skip zr zr ?_
    (simp only [Act.put, Mem.pa, Mem.pb, Mem.pc])
    refine plan_skip zr zr ?_
    (simp only [Act.put, Mem.pa, Mem.pb, Mem.pc])
    refine plan_skip zr zr ?_
    (simp only [Act.put, Mem.pa, Mem.pb, Mem.pc])
    refine plan_skip zr zr ?_
    (simp only [Act.put, Mem.pa, Mem.pb, Mem.pc])
    refine plan_skip zr zr ?_
    (simp only [Act.put, Mem.pa, Mem.pb, Mem.pc])
    refine plan_skip zr zr ?_
    (simp only [Act.put, Mem.pa, Mem.pb, Mem.pc])
    refine plan_skip zr zr ?_
    (simp only [Act.put, Mem.pa, Mem.pb, Mem.pc])
    refine plan_skip zr zr ?_
    (simp only [Act.put, Mem.pa, Mem.pb, Mem.pc])
    refine plan_skip zr zr ?_
    (simp only [Act.put, Mem.pa, Mem.pb, Mem.pc])
    refine plan_pick_t _ _ _ _ zr zr zr Mem.ev_a Mem.ev_a ?_
    (simp only [Act.put, Mem.pa, Mem.pb, Mem.pc])
    (first | refine Mem.pm1 ?_ | refine Mem.pm2 ?_ | refine Mem.pt ?_ | refine Mem.pf ?_)
    (simp only [Act.put, Mem.pa, Mem.pb, Mem.pc])
    refine plan_skip zr zr ?_
    (simp only [Act.put, Mem.pa, Mem.pb, Mem.pc])
    refine plan_skip zr zr ?_
    (simp only [Act.put, Mem.pa, Mem.pb, Mem.pc])
    refine plan_skip zr zr ?_
    (simp only [Act.put, Mem.pa, Mem.pb, Mem.pc])
    refine plan_skip zr zr ?_
    (simp only [Act.put, Mem.pa, Mem.pb, Mem.pc])
    refine plan_skip zr zr ?_
    (simp only [Act.put, Mem.pa, Mem.pb, Mem.pc])
    refine plan_skip zr zr ?_
    (simp only [Act.put, Mem.pa, Mem.pb, Mem.pc])
    refine plan_skip zr zr ?_
    (simp only [Act.put, Mem.pa, Mem.pb, Mem.pc])
    refine plan_pick_t _ _ _ _ zr zr zr Mem.ev_a Mem.ev_a ?_
    (simp only [Act.put, Mem.pa, Mem.pb, Mem.pc])
    refine plan_nil ?_
    go_wp2_with fail
    go_ret
    exact ⟨by rw [HY.out]; rfl, BW.out.drew⟩
   ·by_cases g2 : (p : Int) ≤ z
    ·have HY := zh (NO0.out (RNJ.out fun h => by have := OKJ.out.1 h; omega))
     have LT : Hid (decide (z < 0) = false) := zh (decide_eq_false g1)
     have GE : Hid (decide ((p : Int) ≤ z) = true) := zh (decide_eq_true g2)
     clear g1 g2
     go_upto_region 4 with fail
     refine wp_region_plan_in (fun x' => Below wr.heap.size wr x') (.take 0 (.take 1 (.take 2 (.take 3 (.take 4 (.take 5 (.take 6 (.take 7 (.take 8 (.take 9 (.take 10 (.take 11 (.take 12 (.take 13 (.take 14 (.take 15 (.take 16 (.take 17 (.take 18 (.take 19 (.take 20 (.take 21 (.take 22 (.take 23 (.take 24 (.take 25 (.take 26 (.take 27 (.take 28 (.take 29 (.take 30 (.take 31 (.take 32 (.take 33 (.take 34 (.take 35 (.take 36 (.take 37 (.take 38 (.take 39 (.take 40 (.take 41 (.take 42 .done))))))))))))))))))))))))))))))))))))))))))) (by kernel_rfl) (by kernel_rfl) (by kernel_rfl) (Below.refl _ _).drew ?_
     (first | refine Mem.pm1 ?_ | refine Mem.pm2 ?_ | refine Mem.pt ?_ | refine Mem.pf ?_)
     (simp only [Act.put, Mem.pa, Mem.pb, Mem.pc])
     (first | refine Mem.pm1 ?_ | refine Mem.pm2 ?_ | refine Mem.pt ?_ | refine Mem.pf ?_)
     (simp only [Act.put, Mem.pa, Mem.pb, Mem.pc])
     refine plan_index_z 23 38 _ _ b1 o1 nC cc 2 j zr zr zr Mem.ev_a Mem.ev_a (by omega) Tryz.underlying23 (by kernel_rfl) ?_
     (simp only [Act.put, Mem.pa, Mem.pb, Mem.pc])
     refine plan_field 38 _ 0 b1 (o1 + j * 2) ⟨b1, o1 + j * 2, none⟩ zr zr zr Mem.ev_a (fun wx => by go_simp) ?_
     (simp only [Act.put, Mem.pa, Mem.pb, Mem.pc])
     refine plan_cell 3 _ _ (.int .i64 z) _ zr zr zr Mem.ev_a (fun w' hw' => (hw'.cell (p := ⟨b1, o1 + j * 2, none⟩) LB1.out).trans CZ.out) Tryz.underlying3 zr ?_
     (simp only [Act.put, Mem.pa, Mem.pb, Mem.pc])
     refine plan_bin _ _ _ _ _ _ _ (.bool false) zr zr zr Mem.ev_a zr (fun wx => o_ilt1 z 0 false LT.out _ _ _ _ wx) ?_
     (simp only [Act.put, Mem.pa, Mem.pb, Mem.pc])
     (first | refine Mem.pm1 ?_ | refine Mem.pm2 ?_ | refine Mem.pt ?_ | refine Mem.pf ?_)
     (simp only [Act.put, Mem.pa, Mem.pb, Mem.pc])
     (first | refine Mem.pm1 ?_ | refine Mem.pm2 ?_ | refine Mem.pt ?_ | refine Mem.pf ?_)
     (simp only [Act.put, Mem.pa, Mem.pb, Mem.pc])
     (first | refine Mem.pm1 ?_ | refine Mem.pm2 ?_ | refine Mem.pt ?_ | refine Mem.pf ?_)
     (simp only [Act.put, Mem.pa, Mem.pb, Mem.pc])
     refine plan_index_z 23 38 _ _ b1 o1 nC cc 2 j zr zr zr Mem.ev_a Mem.ev_a (by omega) Tryz.underlying23 (by kernel_rfl) ?_
     (simp only [Act.put, Mem.pa, Mem.pb, Mem.pc])
     refine plan_field 38 _ 0 b1 (o1 + j * 2) ⟨b1, o1 + j * 2, none⟩ zr zr zr Mem.ev_a (fun wx => by go_simp) ?_
     (simp only [Act.put, Mem.pa, Mem.pb, Mem.pc])
     refine plan_cell 3 _ _ (.int .i64 z) _ zr zr zr Mem.ev_a (fun w' hw' => (hw'.cell (p := ⟨b1, o1 + j * 2, none⟩) LB1.out).trans CZ.out) Tryz.underlying3 zr ?_
     (simp only [Act.put, Mem.pa, Mem.pb, Mem.pc])
     refine plan_field 31 _ 0 w.heap.size 0 ⟨w.heap.size, 0, none⟩ zr zr zr Mem.ev_a (fun wx => by go_simp) ?_
     (simp only [Act.put, Mem.pa, Mem.pb, Mem.pc])
     refine plan_cell 3 _ _ (.int .i64 ((p : Int))) _ zr zr zr Mem.ev_a (fun w' hw' => (hw'.cell (p := ⟨w.heap.size, 0, none⟩) AW.out.lt).trans CM.out) Tryz.underlying3 zr ?_
     (simp only [Act.put, Mem.pa, Mem.pb, Mem.pc])
     refine plan_bin _ _ _ _ _ _ _ (.bool true) zr zr zr Mem.ev_a Mem.ev_a (fun wx => o_ige1 z (p : Int) true GE.out _ _ _ _ wx) ?_
     (simp only [Act.put, Mem.pa, Mem.pb, Mem.pc])
     refine plan_pick_f _ _ _ _ zr zr zr Mem.ev_a Mem.ev_a ?_
     (simp only [Act.put, Mem.pa, Mem.pb, Mem.pc])
     (first | refine Mem.pm1 ?_ | refine Mem.pm2 ?_ | refine Mem.pt ?_ | refine Mem.pf ?_)
     (simp only [Act.put, Mem.pa, Mem.pb, Mem.pc])
     refine plan_skip zr zr ?_
     (simp only [Act.put, Mem.pa, Mem.pb, Mem.pc])
     refine plan_skip zr zr ?_
     (simp only [Act.put, Mem.pa, Mem.pb, Mem.pc])
     refine plan_skip zr zr ?_
     (simp only [Act.put, Mem.pa, Mem.pb, Mem.pc])
     refine plan_skip zr zr ?_
     (simp only [Act.put, Mem.pa, Mem.pb, Mem.pc])
     refine plan_skip zr zr ?_
     (simp only [Act.put, Mem.pa, Mem.pb, Mem.pc])
     refine plan_skip zr zr ?_
     (simp only [Act.put, Mem.pa, Mem.pb, Mem.pc])
     refine plan_skip zr zr ?_
     (simp only [Act.put, Mem.pa, Mem.pb, Mem.pc])
     refine plan_skip zr zr ?_
     (simp only [Act.put, Mem.pa, Mem.pb, Mem.pc])
     refine plan_skip zr zr ?_
     (simp only [Act.put, Mem.pa, Mem.pb, Mem.pc])
     refine plan_skip zr zr ?_
     (simp only [Act.put, Mem.pa, Mem.pb, Mem.pc])
     refine plan_skip zr zr ?_
     (simp only [Act.put, Mem.pa, Mem.pb, Mem.pc])
     refine plan_skip zr zr ?_
     (simp only [Act.put, Mem.pa, Mem.pb, Mem.pc])
     refine plan_skip zr zr ?_
     (simp only [Act.put, Mem.pa, Mem.pb, Mem.pc])
     refine plan_skip zr zr ?_
     (simp only [Act.put, Mem.pa, Mem.pb, Mem.pc])
     refine plan_skip zr zr ?_
     (simp only [Act.put, Mem.pa, Mem.pb, Mem.pc])
     refine plan_skip zr zr ?_
     (simp only [Act.put, Mem.pa, Mem.pb, Mem.pc])
     refine plan_pick_t _ _ _ _ zr zr zr Mem.ev_a Mem.ev_a ?_
     (simp only [Act.put, Mem.pa, Mem.pb, Mem.pc])
     (first | refine Mem.pm1 ?_ | refine Mem.pm2 ?_ | refine Mem.pt ?_ | refine Mem.pf ?_)
     (simp only [Act.put, Mem.pa, Mem.pb, Mem.pc])
     refine plan_skip zr zr ?_
     (simp only [Act.put, Mem.pa, Mem.pb, Mem.pc])
     refine plan_skip zr zr ?_
     (simp only [Act.put, Mem.pa, Mem.pb, Mem.pc])
     refine plan_skip zr zr ?_
     (simp only [Act.put, Mem.pa, Mem.pb, Mem.pc])
     refine plan_skip zr zr ?_
     (simp only [Act.put, Mem.pa, Mem.pb, Mem.pc])
     refine plan_skip zr zr ?_
     (simp only [Act.put, Mem.pa, Mem.pb, Mem.pc])
     refine plan_skip zr zr ?_
     (simp only [Act.put, Mem.pa, Mem.pb, Mem.pc])
     refine plan_skip zr zr ?_
     (simp only [Act.put, Mem.pa, Mem.pb, Mem.pc])
     refine plan_pick_t _ _ _ _ zr zr zr Mem.ev_a Mem.ev_a ?_
     (simp only [Act.put, Mem.pa, Mem.pb, Mem.pc])
     refine plan_nil ?_
     go_wp2_with fail
     go_ret
     exact ⟨by rw [HY.out]; rfl, BW.out.drew⟩
    ·have LT : Hid (decide (z < 0) = false) := zh (decide_eq_false g1)
     have GE : Hid (decide ((p : Int) ≤ z) = false) := zh (decide_eq_false g2)
     by_cases gj : 0 < j
     ·obtain ⟨j2, hj2⟩ : ∃ j2 : Nat, j = j2 + 1 := ⟨j - 1, by omega⟩
      have J2 := zh hj2
      have hj3 : j2 < nC := by omega
      have CP2 : Hid (wr.cell? ⟨b1, o1 + j2 * 2, none⟩ = some (.int .i64 zp)) := zh (by have h := CP.out gj; rw [show j - 1 = j2 by omega] at h; exact h)
      have GJ : Hid (decide ((0 : Int) < (j : Int)) = true) := zh (decide_eq_true (by omega))
      by_cases g3 : z ≤ zp
      ·have HY := zh (NO0.out (RNJ.out fun h => by have := (OKJ.out.1 h).2.2 gj; omega))
       have GP : Hid (decide (z ≤ zp) = true) := zh (decide_eq_true g3)
       clear g1 g2 g3 gj hj2
       go_upto_region 4 with fail
       refine wp_region_plan_in (fun x' => Below wr.heap.size wr x') (.take 0 (.take 1 (.take 2 (.take 3 (.take 4 (.take 5 (.take 6 (.take 7 (.take 8 (.take 9 (.take 10 (.take 11 (.take 12 (.take 13 (.take 14 (.take 15 (.take 16 (.take 17 (.take 18 (.take 19 (.take 20 (.take 21 (.take 22 (.take 23 (.take 24 (.take 25 (.take 26 (.take 27 (.take 28 (.take 29 (.take 30 (.take 31 (.take 32 (.take 33 (.take 34 (.take 35 (.take 36 (.take 37 (.take 38 (.take 39 (.take 40 (.take 41 (.take 42 .done))))))))))))))))))))))))))))))))))))))))))) (by kernel_rfl) (by kernel_rfl) (by kernel_rfl) (Below.refl _ _).drew ?_
       (first | refine Mem.pm1 ?_ | refine Mem.pm2 ?_ | refine Mem.pt ?_ | refine Mem.pf ?_)
       (simp only [Act.put, Mem.pa, Mem.pb, Mem.pc])
       (first | refine Mem.pm1 ?_ | refine Mem.pm2 ?_ | refine Mem.pt ?_ | refine Mem.pf ?_)
       (simp only [Act.put, Mem.pa, Mem.pb, Mem.pc])
       refine plan_index_z 23 38 _ _ b1 o1 nC cc 2 j zr zr zr Mem.ev_a Mem.ev_a (by omega) Tryz.underlying23 (by kernel_rfl) ?_
       (simp only [Act.put, Mem.pa, Mem.pb, Mem.pc])
       refine plan_field 38 _ 0 b1 (o1 + j * 2) ⟨b1, o1 + j * 2, none⟩ zr zr zr Mem.ev_a (fun wx => by go_simp) ?_
       (simp only [Act.put, Mem.pa, Mem.pb, Mem.pc])
       refine plan_cell 3 _ _ (.int .i64 z) _ zr zr zr Mem.ev_a (fun w' hw' => (hw'.cell (p := ⟨b1, o1 + j * 2, none⟩) LB1.out).trans CZ.out) Tryz.underlying3 zr ?_
       (simp only [Act.put, Mem.pa, Mem.pb, Mem.pc])
       refine plan_bin _ _ _ _ _ _ _ (.bool false) zr zr zr Mem.ev_a zr (fun wx => o_ilt1 z 0 false LT.out _ _ _ _ wx) ?_
       (simp only [Act.put, Mem.pa, Mem.pb, Mem.pc])
       (first | refine Mem.pm1 ?_ | refine Mem.pm2 ?_ | refine Mem.pt ?_ | refine Mem.pf ?_)
       (simp only [Act.put, Mem.pa, Mem.pb, Mem.pc])
       (first | refine Mem.pm1 ?_ | refine Mem.pm2 ?_ | refine Mem.pt ?_ | refine Mem.pf ?_)
       (simp only [Act.put, Mem.pa, Mem.pb, Mem.pc])
       (first | refine Mem.pm1 ?_ | refine Mem.pm2 ?_ | refine Mem.pt ?_ | refine Mem.pf ?_)
       (simp only [Act.put, Mem.pa, Mem.pb, Mem.pc])
       refine plan_index_z 23 38 _ _ b1 o1 nC cc 2 j zr zr zr Mem.ev_a Mem.ev_a (by omega) Tryz.underlying23 (by kernel_rfl) ?_
       (simp only [Act.put, Mem.pa, Mem.pb, Mem.pc])
       refine plan_field 38 _ 0 b1 (o1 + j * 2) ⟨b1, o1 + j * 2, none⟩ zr zr zr Mem.ev_a (fun wx => by go_simp) ?_
       (simp only [Act.put, Mem.pa, Mem.pb, Mem.pc])
       refine plan_cell 3 _ _ (.int .i64 z) _ zr zr zr Mem.ev_a (fun w' hw' => (hw'.cell (p := ⟨b1, o1 + j * 2, none⟩) LB1.out).trans CZ.out) Tryz.underlying3 zr ?_
       (simp only [Act.put, Mem.pa, Mem.pb, Mem.pc])
       refine plan_field 31 _ 0 w.heap.size 0 ⟨w.heap.size, 0, none⟩ zr zr zr Mem.ev_a (fun wx => by go_simp) ?_
       (simp only [Act.put, Mem.pa, Mem.pb, Mem.pc])
       refine plan_cell 3 _ _ (.int .i64 ((p : Int))) _ zr zr zr Mem.ev_a (fun w' hw' => (hw'.cell (p := ⟨w.heap.size, 0, none⟩) AW.out.lt).trans CM.out) Tryz.underlying3 zr ?_
       (simp only [Act.put, Mem.pa, Mem.pb, Mem.pc])
       refine plan_bin _ _ _ _ _ _ _ (.bool false) zr zr zr Mem.ev_a Mem.ev_a (fun wx => o_ige1 z (p : Int) false GE.out _ _ _ _ wx) ?_
       (simp only [Act.put, Mem.pa, Mem.pb, Mem.pc])
       refine plan_pick_f _ _ _ _ zr zr zr Mem.ev_a Mem.ev_a ?_
       (simp only [Act.put, Mem.pa, Mem.pb, Mem.pc])
       (first | refine Mem.pm1 ?_ | refine Mem.pm2 ?_ | refine Mem.pt ?_ | refine Mem.pf ?_)
       (simp only [Act.put, Mem.pa, Mem.pb, Mem.pc])
       (first | refine Mem.pm1 ?_ | refine Mem.pm2 ?_ | refine Mem.pt ?_ | refine Mem.pf ?_)
       (simp only [Act.put, Mem.pa, Mem.pb, Mem.pc])
       refine plan_bin _ _ _ _ _ _ _ (.bool true) zr zr zr Mem.ev_a zr (fun wx => o_igt1 (j : Int) 0 true GJ.out _ _ _ _ wx) ?_
       (simp only [Act.put, Mem.pa, Mem.pb, Mem.pc])
       (first | refine Mem.pm1 ?_ | refine Mem.pm2 ?_ | refine Mem.pt ?_ | refine Mem.pf ?_)
       (simp only [Act.put, Mem.pa, Mem.pb, Mem.pc])
       (first | refine Mem.pm1 ?_ | refine Mem.pm2 ?_ | refine Mem.pt ?_ | refine Mem.pf ?_)
       (simp only [Act.put, Mem.pa, Mem.pb, Mem.pc])
       (first | refine Mem.pm1 ?_ | refine Mem.pm2 ?_ | refine Mem.pt ?_ | refine Mem.pf ?_)
       (simp only [Act.put, Mem.pa, Mem.pb, Mem.pc])
       refine plan_bin _ _ _ _ _ _ _ (.int .i64 ((j2 : Int))) zr zr zr Mem.ev_a zr (fun wx => o_isub _ _ _ _ (j : Int) 1 (j2 : Int) (by have := J2.out; omega) (by omega) (by have := J2.out; omega) wx) ?_
       (simp only [Act.put, Mem.pa, Mem.pb, Mem.pc])
       refine plan_index_z 23 38 _ _ b1 o1 nC cc 2 j2 zr zr zr Mem.ev_a Mem.ev_a (by omega) Tryz.underlying23 (by kernel_rfl) ?_
       (simp only [Act.put, Mem.pa, Mem.pb, Mem.pc])
       refine plan_field 38 _ 0 b1 (o1 + j2 * 2) ⟨b1, o1 + j2 * 2, none⟩ zr zr zr Mem.ev_a (fun wx => by go_simp) ?_
       (simp only [Act.put, Mem.pa, Mem.pb, Mem.pc])
       refine plan_cell 3 _ _ (.int .i64 zp) _ zr zr zr Mem.ev_a (fun w' hw' => (hw'.cell (p := ⟨b1, o1 + j2 * 2, none⟩) LB1.out).trans CP2.out) Tryz.underlying3 zr ?_
       (simp only [Act.put, Mem.pa, Mem.pb, Mem.pc])
       (first | refine Mem.pm1 ?_ | refine Mem.pm2 ?_ | refine Mem.pt ?_ | refine Mem.pf ?_)
       (simp only [Act.put, Mem.pa, Mem.pb, Mem.pc])
       (first | refine Mem.pm1 ?_ | refine Mem.pm2 ?_ | refine Mem.pt ?_ | refine Mem.pf ?_)
       (simp only [Act.put, Mem.pa, Mem.pb, Mem.pc])
       refine plan_index_z 23 38 _ _ b1 o1 nC cc 2 j zr zr zr Mem.ev_a Mem.ev_a (by omega) Tryz.underlying23 (by kernel_rfl) ?_
       (simp only [Act.put, Mem.pa, Mem.pb, Mem.pc])
       refine plan_field 38 _ 0 b1 (o1 + j * 2) ⟨b1, o1 + j * 2, none⟩ zr zr zr Mem.ev_a (fun wx => by go_simp) ?_
       (simp only [Act.put, Mem.pa, Mem.pb, Mem.pc])
       refine plan_cell 3 _ _ (.int .i64 z) _ zr zr zr Mem.ev_a (fun w' hw' => (hw'.cell (p := ⟨b1, o1 + j * 2, none⟩) LB1.out).trans CZ.out) Tryz.underlying3 zr ?_
       (simp only [Act.put, Mem.pa, Mem.pb, Mem.pc])
       refine plan_bin _ _ _ _ _ _ _ (.bool true) zr zr zr Mem.ev_a Mem.ev_a (fun wx => o_ige1 zp z true GP.out _ _ _ _ wx) ?_
       (simp only [Act.put, Mem.pa, Mem.pb, Mem.pc])
       refine plan_pick_t _ _ _ _ zr zr zr Mem.ev_a Mem.ev_a ?_
       (simp only [Act.put, Mem.pa, Mem.pb, Mem.pc])
       refine plan_pick_f _ _ _ _ zr zr zr Mem.ev_a Mem.ev_a ?_
       (simp only [Act.put, Mem.pa, Mem.pb, Mem.pc])
       (first | refine Mem.pm1 ?_ | refine Mem.pm2 ?_ | refine Mem.pt ?_ | refine Mem.pf ?_)
       (simp only [Act.put, Mem.pa, Mem.pb, Mem.pc])
       refine plan_skip zr zr ?_
       (simp only [Act.put, Mem.pa, Mem.pb, Mem.pc])
       refine plan_skip zr zr ?_
       (simp only [Act.put, Mem.pa, Mem.pb, Mem.pc])
       refine plan_skip zr zr ?_
       (simp only [Act.put, Mem.pa, Mem.pb, Mem.pc])
       refine plan_skip zr zr ?_
       (simp only [Act.put, Mem.pa, Mem.pb, Mem.pc])
       refine plan_skip zr zr ?_
       (simp only [Act.put, Mem.pa, Mem.pb, Mem.pc])
       refine plan_skip zr zr ?_
       (simp only [Act.put, Mem.pa, Mem.pb, Mem.pc])
       refine plan_skip zr zr ?_
       (simp only [Act.put, Mem.pa, Mem.pb, Mem.pc])
       refine plan_pick_t _ _ _ _ zr zr zr Mem.ev_a Mem.ev_a ?_
       (simp only [Act.put, Mem.pa, Mem.pb, Mem.pc])
       refine plan_nil ?_
       go_wp2_with fail
       go_ret
       exact ⟨by rw [HY.out]; rfl, BW.out.drew⟩
      ·have GP : Hid (decide (z ≤ zp) = false) := zh (decide_eq_false g3)
       by_cases g4 : (m : Int) = 256
       ·have N4 := zh g4
        have NX := zh (NXJ.out (OKJ.out.2 ⟨⟨by omega, by omega⟩, by omega, fun _ => by omega⟩))
        clear g1 g2 g3 g4 gj hj2
        go_upto_region 4 with fail
        refine wp_region_plan_in (fun x' => Below wr.heap.size wr x') (.take 0 (.take 1 (.take 2 (.take 3 (.take 4 (.take 5 (.take 6 (.take 7 (.take 8 (.take 9 (.take 10 (.take 11 (.take 12 (.take 13 (.take 14 (.take 15 (.take 16 (.take 17 (.take 18 (.take 19 (.take 20 (.take 21 (.take 22 (.take 23 (.take 24 (.take 25 (.take 26 (.take 27 (.take 28 (.take 29 (.take 30 (.take 31 (.take 32 (.take 33 (.take 34 (.take 35 (.take 36 (.take 37 (.take 38 (.take 39 (.take 40 (.take 41 (.take 42 .done))))))))))))))))))))))))))))))))))))))))))) (by kernel_rfl) (by kernel_rfl) (by kernel_rfl) (Below.refl _ _).drew ?_
        (first | refine Mem.pm1 ?_ | refine Mem.pm2 ?_ | refine Mem.pt ?_ | refine Mem.pf ?_)
        (simp only [Act.put, Mem.pa, Mem.pb, Mem.pc])
        (first | refine Mem.pm1 ?_ | refine Mem.pm2 ?_ | refine Mem.pt ?_ | refine Mem.pf ?_)
        (simp only [Act.put, Mem.pa, Mem.pb, Mem.pc])
        refine plan_index_z 23 38 _ _ b1 o1 nC cc 2 j zr zr zr Mem.ev_a Mem.ev_a (by omega) Tryz.underlying23 (by kernel_rfl) ?_
        (simp only [Act.put, Mem.pa, Mem.pb, Mem.pc])
        refine plan_field 38 _ 0 b1 (o1 + j * 2) ⟨b1, o1 + j * 2, none⟩ zr zr zr Mem.ev_a (fun wx => by go_simp) ?_
        (simp only [Act.put, Mem.pa, Mem.pb, Mem.pc])
        refine plan_cell 3 _ _ (.int .i64 z) _ zr zr zr Mem.ev_a (fun w' hw' => (hw'.cell (p := ⟨b1, o1 + j * 2, none⟩) LB1.out).trans CZ.out) Tryz.underlying3 zr ?_
        (simp only [Act.put, Mem.pa, Mem.pb, Mem.pc])
        refine plan_bin _ _ _ _ _ _ _ (.bool false) zr zr zr Mem.ev_a zr (fun wx => o_ilt1 z 0 false LT.out _ _ _ _ wx) ?_
        (simp only [Act.put, Mem.pa, Mem.pb, Mem.pc])
        (first | refine Mem.pm1 ?_ | refine Mem.pm2 ?_ | refine Mem.pt ?_ | refine Mem.pf ?_)
        (simp only [Act.put, Mem.pa, Mem.pb, Mem.pc])
        (first | refine Mem.pm1 ?_ | refine Mem.pm2 ?_ | refine Mem.pt ?_ | refine Mem.pf ?_)
        (simp only [Act.put, Mem.pa, Mem.pb, Mem.pc])
        (first | refine Mem.pm1 ?_ | refine Mem.pm2 ?_ | refine Mem.pt ?_ | refine Mem.pf ?_)
        (simp only [Act.put, Mem.pa, Mem.pb, Mem.pc])
        refine plan_index_z 23 38 _ _ b1 o1 nC cc 2 j zr zr zr Mem.ev_a Mem.ev_a (by omega) Tryz.underlying23 (by kernel_rfl) ?_
        (simp only [Act.put, Mem.pa, Mem.pb, Mem.pc])
        refine plan_field 38 _ 0 b1 (o1 + j * 2) ⟨b1, o1 + j * 2, none⟩ zr zr zr Mem.ev_a (fun wx => by go_simp) ?_
        (simp only [Act.put, Mem.pa, Mem.pb, Mem.pc])
        refine plan_cell 3 _ _ (.int .i64 z) _ zr zr zr Mem.ev_a (fun w' hw' => (hw'.cell (p := ⟨b1, o1 + j * 2, none⟩) LB1.out).trans CZ.out) Tryz.underlying3 zr ?_
        (simp only [Act.put, Mem.pa, Mem.pb, Mem.pc])
        refine plan_field 31 _ 0 w.heap.size 0 ⟨w.heap.size, 0, none⟩ zr zr zr Mem.ev_a (fun wx => by go_simp) ?_
        (simp only [Act.put, Mem.pa, Mem.pb, Mem.pc])
        refine plan_cell 3 _ _ (.int .i64 ((p : Int))) _ zr zr zr Mem.ev_a (fun w' hw' => (hw'.cell (p := ⟨w.heap.size, 0, none⟩) AW.out.lt).trans CM.out) Tryz.underlying3 zr ?_
        (simp only [Act.put, Mem.pa, Mem.pb, Mem.pc])
        refine plan_bin _ _ _ _ _ _ _ (.bool false) zr zr zr Mem.ev_a Mem.ev_a (fun wx => o_ige1 z (p : Int) false GE.out _ _ _ _ wx) ?_
        (simp only [Act.put, Mem.pa, Mem.pb, Mem.pc])
        refine plan_pick_f _ _ _ _ zr zr zr Mem.ev_a Mem.ev_a ?_
        (simp only [Act.put, Mem.pa, Mem.pb, Mem.pc])
        (first | refine Mem.pm1 ?_ | refine Mem.pm2 ?_ | refine Mem.pt ?_ | refine Mem.pf ?_)
        (simp only [Act.put, Mem.pa, Mem.pb, Mem.pc])
        (first | refine Mem.pm1 ?_ | refine Mem.pm2 ?_ | refine Mem.pt ?_ | refine Mem.pf ?_)
        (simp only [Act.put, Mem.pa, Mem.pb, Mem.pc])
        refine plan_bin _ _ _ _ _ _ _ (.bool true) zr zr zr Mem.ev_a zr (fun wx => o_igt1 (j : Int) 0 true GJ.out _ _ _ _ wx) ?_
        (simp only [Act.put, Mem.pa, Mem.pb, Mem.pc])
        (first | refine Mem.pm1 ?_ | refine Mem.pm2 ?_ | refine Mem.pt ?_ | refine Mem.pf ?_)
        (simp only [Act.put, Mem.pa, Mem.pb, Mem.pc])
        (first | refine Mem.pm1 ?_ | refine Mem.pm2 ?_ | refine Mem.pt ?_ | refine Mem.pf ?_)
        (simp only [Act.put, Mem.pa, Mem.pb, Mem.pc])
        (first | refine Mem.pm1 ?_ | refine Mem.pm2 ?_ | refine Mem.pt ?_ | refine Mem.pf ?_)
        (simp only [Act.put, Mem.pa, Mem.pb, Mem.pc])
        refine plan_bin _ _ _ _ _ _ _ (.int .i64 ((j2 : Int))) zr zr zr Mem.ev_a zr (fun wx => o_isub _ _ _ _ (j : Int) 1 (j2 : Int) (by have := J2.out; omega) (by omega) (by have := J2.out; omega) wx) ?_
        (simp only [Act.put, Mem.pa, Mem.pb, Mem.pc])
        refine plan_index_z 23 38 _ _ b1 o1 nC cc 2 j2 zr zr zr Mem.ev_a Mem.ev_a (by omega) Tryz.underlying23 (by kernel_rfl) ?_
        (simp only [Act.put, Mem.pa, Mem.pb, Mem.pc])
        refine plan_field 38 _ 0 b1 (o1 + j2 * 2) ⟨b1, o1 + j2 * 2, none⟩ zr zr zr Mem.ev_a (fun wx => by go_simp) ?_
        (simp only [Act.put, Mem.pa, Mem.pb, Mem.pc])
        refine plan_cell 3 _ _ (.int .i64 zp) _ zr zr zr Mem.ev_a (fun w' hw' => (hw'.cell (p := ⟨b1, o1 + j2 * 2, none⟩) LB1.out).trans CP2.out) Tryz.underlying3 zr ?_
        (simp only [Act.put, Mem.pa, Mem.pb, Mem.pc])
        (first | refine Mem.pm1 ?_ | refine Mem.pm2 ?_ | refine Mem.pt ?_ | refine Mem.pf ?_)
        (simp only [Act.put, Mem.pa, Mem.pb, Mem.pc])
        (first | refine Mem.pm1 ?_ | refine Mem.pm2 ?_ | refine Mem.pt ?_ | refine Mem.pf ?_)
        (simp only [Act.put, Mem.pa, Mem.pb, Mem.pc])
        refine plan_index_z 23 38 _ _ b1 o1 nC cc 2 j zr zr zr Mem.ev_a Mem.ev_a (by omega) Tryz.underlying23 (by kernel_rfl) ?_
        (simp only [Act.put, Mem.pa, Mem.pb, Mem.pc])
        refine plan_field 38 _ 0 b1 (o1 + j * 2) ⟨b1, o1 + j * 2, none⟩ zr zr zr Mem.ev_a (fun wx => by go_simp) ?_
        (simp only [Act.put, Mem.pa, Mem.pb, Mem.pc])
        refine plan_cell 3 _ _ (.int .i64 z) _ zr zr zr Mem.ev_a (fun w' hw' => (hw'.cell (p := ⟨b1, o1 + j * 2, none⟩) LB1.out).trans CZ.out) Tryz.underlying3 zr ?_
        (simp only [Act.put, Mem.pa, Mem.pb, Mem.pc])
        refine plan_bin _ _ _ _ _ _ _ (.bool false) zr zr zr Mem.ev_a Mem.ev_a (fun wx => o_ige1 zp z false GP.out _ _ _ _ wx) ?_
        (simp only [Act.put, Mem.pa, Mem.pb, Mem.pc])
        refine plan_pick_t _ _ _ _ zr zr zr Mem.ev_a Mem.ev_a ?_
        (simp only [Act.put, Mem.pa, Mem.pb, Mem.pc])
        refine plan_pick_f _ _ _ _ zr zr zr Mem.ev_a Mem.ev_a ?_
        (simp only [Act.put, Mem.pa, Mem.pb, Mem.pc])
        (first | refine Mem.pm1 ?_ | refine Mem.pm2 ?_ | refine Mem.pt ?_ | refine Mem.pf ?_)
        (simp only [Act.put, Mem.pa, Mem.pb, Mem.pc])
        (first | refine Mem.pm1 ?_ | refine Mem.pm2 ?_ | refine Mem.pt ?_ | refine Mem.pf ?_)
        (simp only [Act.put, Mem.pa, Mem.pb, Mem.pc])
        (first | refine Mem.pm1 ?_ | refine Mem.pm2 ?_ | refine Mem.pt ?_ | refine Mem.pf ?_)
        (simp only [Act.put, Mem.pa, Mem.pb, Mem.pc])
        refine plan_index_z 23 38 _ _ b1 o1 nC cc 2 j zr zr zr Mem.ev_a Mem.ev_a (by omega) Tryz.underlying23 (by kernel_rfl) ?_
        (simp only [Act.put, Mem.pa, Mem.pb, Mem.pc])
        refine plan_field 38 _ 1 b1 (o1 + j * 2) ⟨b1, o1 + j * 2 + 1, none⟩ zr zr zr Mem.ev_a (fun wx => by go_simp) ?_
        (simp only [Act.put, Mem.pa, Mem.pb, Mem.pc])
        refine plan_cell 36 _ _ (.slice a3 m c3) _ zr zr zr Mem.ev_a (fun w' hw' => (hw'.cell (p := ⟨b1, o1 + j * 2 + 1, none⟩) LB1.out).trans CU.out) Tryz.underlying36 zr ?_
        (simp only [Act.put, Mem.pa, Mem.pb, Mem.pc])
        refine plan_len _ _ _ _ m _ zr zr zr zr Mem.ev_a (fun wx => by go_simp) ?_
        (simp only [Act.put, Mem.pa, Mem.pb, Mem.pc])
        refine plan_bin _ _ _ _ _ _ _ (.bool false) zr zr zr Mem.ev_a zr (fun wx => o_ineq (m : Int) 256 N4.out _ _ _ _ wx) ?_
        (simp only [Act.put, Mem.pa, Mem.pb, Mem.pc])
        refine plan_pick_f _ _ _ _ zr zr zr Mem.ev_a Mem.ev_a ?_
        (simp only [Act.put, Mem.pa, Mem.pb, Mem.pc])
        refine plan_nil ?_
        go_wp2_with fail
        go_roundw
        case rel => exact ⟨j + 1, by omega, by go_num, NX.out, BW.out.drew, AW.out⟩
        case measure => simp [intOf]; omega
       ·have HY := zh (NO0.out (RNJ.out fun h => by have := (OKJ.out.1 h).2.1; omega))
        have N4 := zh g4
        clear g1 g2 g3 g4 gj hj2
        go_upto_region 4 with fail
        refine wp_region_plan_in (fun x' => Below wr.heap.size wr x') (.take 0 (.take 1 (.take 2 (.take 3 (.take 4 (.take 5 (.take 6 (.take 7 (.take 8 (.take 9 (.take 10 (.take 11 (.take 12 (.take 13 (.take 14 (.take 15 (.take 16 (.take 17 (.take 18 (.take 19 (.take 20 (.take 21 (.take 22 (.take 23 (.take 24 (.take 25 (.take 26 (.take 27 (.take 28 (.take 29 (.take 30 (.take 31 (.take 32 (.take 33 (.take 34 (.take 35 (.take 36 (.take 37 (.take 38 (.take 39 (.take 40 (.take 41 (.take 42 .done))))))))))))))))))))))))))))))))))))))))))) (by kernel_rfl) (by kernel_rfl) (by kernel_rfl) (Below.refl _ _).drew ?_
        (first | refine Mem.pm1 ?_ | refine Mem.pm2 ?_ | refine Mem.pt ?_ | refine Mem.pf ?_)
        (simp only [Act.put, Mem.pa, Mem.pb, Mem.pc])
        (first | refine Mem.pm1 ?_ | refine Mem.pm2 ?_ | refine Mem.pt ?_ | refine Mem.pf ?_)
        (simp only [Act.put, Mem.pa, Mem.pb, Mem.pc])
        refine plan_index_z 23 38 _ _ b1 o1 nC cc 2 j zr zr zr Mem.ev_a Mem.ev_a (by omega) Tryz.underlying23 (by kernel_rfl) ?_
        (simp only [Act.put, Mem.pa, Mem.pb, Mem.pc])
        refine plan_field 38 _ 0 b1 (o1 + j * 2) ⟨b1, o1 + j * 2, none⟩ zr zr zr Mem.ev_a (fun wx => by go_simp) ?_
        (simp only [Act.put, Mem.pa, Mem.pb, Mem.pc])
        refine plan_cell 3 _ _ (.int .i64 z) _ zr zr zr Mem.ev_a (fun w' hw' => (hw'.cell (p := ⟨b1, o1 + j * 2, none⟩) LB1.out).trans CZ.out) Tryz.underlying3 zr ?_
        (simp only [Act.put, Mem.pa, Mem.pb, Mem.pc])
        refine plan_bin _ _ _ _ _ _ _ (.bool false) zr zr zr Mem.ev_a zr (fun wx => o_ilt1 z 0 false LT.out _ _ _ _ wx) ?_
        (simp only [Act.put, Mem.pa, Mem.pb, Mem.pc])
        (first | refine Mem.pm1 ?_ | refine Mem.pm2 ?_ | refine Mem.pt ?_ | refine Mem.pf ?_)
        (simp only [Act.put, Mem.pa, Mem.pb, Mem.pc])
        (first | refine Mem.pm1 ?_ | refine Mem.pm2 ?_ | refine Mem.pt ?_ | refine Mem.pf ?_)
        (simp only [Act.put, Mem.pa, Mem.pb, Mem.pc])
        (first | refine Mem.pm1 ?_ | refine Mem.pm2 ?_ | refine Mem.pt ?_ | refine Mem.pf ?_)
        (simp only [Act.put, Mem.pa, Mem.pb, Mem.pc])
        refine plan_index_z 23 38 _ _ b1 o1 nC cc 2 j zr zr zr Mem.ev_a Mem.ev_a (by omega) Tryz.underlying23 (by kernel_rfl) ?_
        (simp only [Act.put, Mem.pa, Mem.pb, Mem.pc])
        refine plan_field 38 _ 0 b1 (o1 + j * 2) ⟨b1, o1 + j * 2, none⟩ zr zr zr Mem.ev_a (fun wx => by go_simp) ?_
        (simp only [Act.put, Mem.pa, Mem.pb, Mem.pc])
        refine plan_cell 3 _ _ (.int .i64 z) _ zr zr zr Mem.ev_a (fun w' hw' => (hw'.cell (p := ⟨b1, o1 + j * 2, none⟩) LB1.out).trans CZ.out) Tryz.underlying3 zr ?_
        (simp only [Act.put, Mem.pa, Mem.pb, Mem.pc])
        refine plan_field 31 _ 0 w.heap.size 0 ⟨w.heap.size, 0, none⟩ zr zr zr Mem.ev_a (fun wx => by go_simp) ?_
        (simp only [Act.put, Mem.pa, Mem.pb, Mem.pc])
        refine plan_cell 3 _ _ (.int .i64 ((p : Int))) _ zr zr zr Mem.ev_a (fun w' hw' => (hw'.cell (p := ⟨w.heap.size, 0, none⟩) AW.out.lt).trans CM.out) Tryz.underlying3 zr ?_
        (simp only [Act.put, Mem.pa, Mem.pb, Mem.pc])
        refine plan_bin _ _ _ _ _ _ _ (.bool false) zr zr zr Mem.ev_a Mem.ev_a (fun wx => o_ige1 z (p : Int) false GE.out _ _ _ _ wx) ?_
        (simp only [Act.put, Mem.pa, Mem.pb, Mem.pc])
        refine plan_pick_f _ _ _ _ zr zr zr Mem.ev_a Mem.ev_a ?_
        (simp only [Act.put, Mem.pa, Mem.pb, Mem.pc])
        (first | refine Mem.pm1 ?_ | refine Mem.pm2 ?_ | refine Mem.pt ?_ | refine Mem.pf ?_)
        (simp only [Act.put, Mem.pa, Mem.pb, Mem.pc])
        (first | refine Mem.pm1 ?_ | refine Mem.pm2 ?_ | refine Mem.pt ?_ | refine Mem.pf ?_)
        (simp only [Act.put, Mem.pa, Mem.pb, Mem.pc])
        refine plan_bin _ _ _ _ _ _ _ (.bool true) zr zr zr Mem.ev_a zr (fun wx => o_igt1 (j : Int) 0 true GJ.out _ _ _ _ wx) ?_
        (simp only [Act.put, Mem.pa, Mem.pb, Mem.pc])
        (first | refine Mem.pm1 ?_ | refine Mem.pm2 ?_ | refine Mem.pt ?_ | refine Mem.pf ?_)
        (simp only [Act.put, Mem.pa, Mem.pb, Mem.pc])
        (first | refine Mem.pm1 ?_ | refine Mem.pm2 ?_ | refine Mem.pt ?_ | refine Mem.pf ?_)
        (simp only [Act.put, Mem.pa, Mem.pb, Mem.pc])
        (first | refine Mem.pm1 ?_ | refine Mem.pm2 ?_ | refine Mem.pt ?_ | refine Mem.pf ?_)
        (simp only [Act.put, Mem.pa, Mem.pb, Mem.pc])
        refine plan_bin _ _ _ _ _ _ _ (.int .i64 ((j2 : Int))) zr zr zr Mem.ev_a zr (fun wx => o_isub _ _ _ _ (j : Int) 1 (j2 : Int) (by have := J2.out; omega) (by omega) (by have := J2.out; omega) wx) ?_
        (simp only [Act.put, Mem.pa, Mem.pb, Mem.pc])
        refine plan_index_z 23 38 _ _ b1 o1 nC cc 2 j2 zr zr zr Mem.ev_a Mem.ev_a (by omega) Tryz.underlying23 (by kernel_rfl) ?_
        (simp only [Act.put, Mem.pa, Mem.pb, Mem.pc])
        refine plan_field 38 _ 0 b1 (o1 + j2 * 2) ⟨b1, o1 + j2 * 2, none⟩ zr zr zr Mem.ev_a (fun wx => by go_simp) ?_
        (simp only [Act.put, Mem.pa, Mem.pb, Mem.pc])
        refine plan_cell 3 _ _ (.int .i64 zp) _ zr zr zr Mem.ev_a (fun w' hw' => (hw'.cell (p := ⟨b1, o1 + j2 * 2, none⟩) LB1.out).trans CP2.out) Tryz.underlying3 zr ?_
        (simp only [Act.put, Mem.pa, Mem.pb, Mem.pc])
        (first | refine Mem.pm1 ?_ | refine Mem.pm2 ?_ | refine Mem.pt ?_ | refine Mem.pf ?_)
        (simp only [Act.put, Mem.pa, Mem.pb, Mem.pc])
        (first | refine Mem.pm1 ?_ | refine Mem.pm2 ?_ | refine Mem.pt ?_ | refine Mem.pf ?_)
        (simp only [Act.put, Mem.pa, Mem.pb, Mem.pc])
        refine plan_index_z 23 38 _ _ b1 o1 nC cc 2 j zr zr zr Mem.ev_a Mem.ev_a (by omega) Tryz.underlying23 (by kernel_rfl) ?_
        (simp only [Act.put, Mem.pa, Mem.pb, Mem.pc])
        refine plan_field 38 _ 0 b1 (o1 + j * 2) ⟨b1, o1 + j * 2, none⟩ zr zr zr Mem.ev_a (fun wx => by go_simp) ?_
        (simp only [Act.put, Mem.pa, Mem.pb, Mem.pc])
        refine plan_cell 3 _ _ (.int .i64 z) _ zr zr zr Mem.ev_a (fun w' hw' => (hw'.cell (p := ⟨b1, o1 + j * 2, none⟩) LB1.out).trans CZ.out) Tryz.underlying3 zr ?_
        (simp only [Act.put, Mem.pa, Mem.pb, Mem.pc])
        refine plan_bin _ _ _ _ _ _ _ (.bool false) zr zr zr Mem.ev_a Mem.ev_a (fun wx => o_ige1 zp z false GP.out _ _ _ _ wx) ?_
        (simp only [Act.put, Mem.pa, Mem.pb, Mem.pc])
        refine plan_pick_t _ _ _ _ zr zr zr Mem.ev_a Mem.ev_a ?_
        (simp only [Act.put, Mem.pa, Mem.pb, Mem.pc])
        refine plan_pick_f _ _ _ _ zr zr zr Mem.ev_a Mem.ev_a ?_
        (simp only [Act.put, Mem.pa, Mem.pb, Mem.pc])
        (first | refine Mem.pm1 ?_ | refine Mem.pm2 ?_ | refine Mem.pt ?_ | refine Mem.pf ?_)
        (simp only [Act.put, Mem.pa, Mem.pb, Mem.pc])
        (first | refine Mem.pm1 ?_ | refine Mem.pm2 ?_ | refine Mem.pt ?_ | refine Mem.pf ?_)
        (simp only [Act.put, Mem.pa, Mem.pb, Mem.pc])
        (first | refine Mem.pm1 ?_ | refine Mem.pm2 ?_ | refine Mem.pt ?_ | refine Mem.pf ?_)
        (simp only [Act.put, Mem.pa, Mem.pb, Mem.pc])
        refine plan_index_z 23 38 _ _ b1 o1 nC cc 2 j zr zr zr Mem.ev_a Mem.ev_a (by omega) Tryz.underlying23 (by kernel_rfl) ?_
        (simp only [Act.put, Mem.pa, Mem.pb, Mem.pc])
        refine plan_field 38 _ 1 b1 (o1 + j * 2) ⟨b1, o1 + j * 2 + 1, none⟩ zr zr zr Mem.ev_a (fun wx => by go_simp) ?_
        (simp only [Act.put, Mem.pa, Mem.pb, Mem.pc])
        refine plan_cell 36 _ _ (.slice a3 m c3) _ zr zr zr Mem.ev_a (fun w' hw' => (hw'.cell (p := ⟨b1, o1 + j * 2 + 1, none⟩) LB1.out).trans CU.out) Tryz.underlying36 zr ?_
        (simp only [Act.put, Mem.pa, Mem.pb, Mem.pc])
        refine plan_len _ _ _ _ m _ zr zr zr zr Mem.ev_a (fun wx => by go_simp) ?_
        (simp only [Act.put, Mem.pa, Mem.pb, Mem.pc])
        refine plan_bin _ _ _ _ _ _ _ (.bool true) zr zr zr Mem.ev_a zr (fun wx => o_inet1 (m : Int) 256 N4.out _ _ _ _ wx) ?_
        (simp only [Act.put, Mem.pa, Mem.pb, Mem.pc])
        refine plan_pick_f _ _ _ _ zr zr zr Mem.ev_a Mem.ev_a ?_
        (simp only [Act.put, Mem.pa, Mem.pb, Mem.pc])
        refine plan_nil ?_
        go_wp2_with fail
        go_ret
        exact ⟨by rw [HY.out]; rfl, BW.out.drew⟩
     ·have GJ : Hid (decide ((0 : Int) < (j : Int)) = false) := zh (decide_eq_false (by omega))
      by_cases g4 : (m : Int) = 256
      ·have N4 := zh g4
       have NX := zh (NXJ.out (OKJ.out.2 ⟨⟨by omega, by omega⟩, by omega, fun h => absurd h gj⟩))
       clear g1 g2 g4 gj
       go_upto_region 4 with fail
       refine wp_region_plan_in (fun x' => Below wr.heap.size wr x') (.take 0 (.take 1 (.take 2 (.take 3 (.take 4 (.take 5 (.take 6 (.take 7 (.take 8 (.take 9 (.take 10 (.take 11 (.take 12 (.take 13 (.take 14 (.take 15 (.take 16 (.take 17 (.take 18 (.take 19 (.take 20 (.take 21 (.take 22 (.take 23 (.take 24 (.take 25 (.take 26 (.take 27 (.take 28 (.take 29 (.take 30 (.take 31 (.take 32 (.take 33 (.take 34 (.take 35 (.take 36 (.take 37 (.take 38 (.take 39 (.take 40 (.take 41 (.take 42 .done))))))))))))))))))))))))))))))))))))))))))) (by kernel_rfl) (by kernel_rfl) (by kernel_rfl) (Below.refl _ _).drew ?_
       (first | refine Mem.pm1 ?_ | refine Mem.pm2 ?_ | refine Mem.pt ?_ | refine Mem.pf ?_)
       (simp only [Act.put, Mem.pa, Mem.pb, Mem.pc])
       (first | refine Mem.pm1 ?_ | refine Mem.pm2 ?_ | refine Mem.pt ?_ | refine Mem.pf ?_)
       (simp only [Act.put, Mem.pa, Mem.pb, Mem.pc])
       refine plan_index_z 23 38 _ _ b1 o1 nC cc 2 j zr zr zr Mem.ev_a Mem.ev_a (by omega) Tryz.underlying23 (by kernel_rfl) ?_
       (simp only [Act.put, Mem.pa, Mem.pb, Mem.pc])
       refine plan_field 38 _ 0 b1 (o1 + j * 2) ⟨b1, o1 + j * 2, none⟩ zr zr zr Mem.ev_a (fun wx => by go_simp) ?_
       (simp only [Act.put, Mem.pa, Mem.pb, Mem.pc])
       refine plan_cell 3 _ _ (.int .i64 z) _ zr zr zr Mem.ev_a (fun w' hw' => (hw'.cell (p := ⟨b1, o1 + j * 2, none⟩) LB1.out).trans CZ.out) Tryz.underlying3 zr ?_
       (simp only [Act.put, Mem.pa, Mem.pb, Mem.pc])
       refine plan_bin _ _ _ _ _ _ _ (.bool false) zr zr zr Mem.ev_a zr (fun wx => o_ilt1 z 0 false LT.out _ _ _ _ wx) ?_
       (simp only [Act.put, Mem.pa, Mem.pb, Mem.pc])
       (first | refine Mem.pm1 ?_ | refine Mem.pm2 ?_ | refine Mem.pt ?_ | refine Mem.pf ?_)
       (simp only [Act.put, Mem.pa, Mem.pb, Mem.pc])
       (first | refine Mem.pm1 ?_ | refine Mem.pm2 ?_ | refine Mem.pt ?_ | refine Mem.pf ?_)
       (simp only [Act.put, Mem.pa, Mem.pb, Mem.pc])
       (first | refine Mem.pm1 ?_ | refine Mem.pm2 ?_ | refine Mem.pt ?_ | refine Mem.pf ?_)
       (simp only [Act.put, Mem.pa, Mem.pb, Mem.pc])
       refine plan_index_z 23 38 _ _ b1 o1 nC cc 2 j zr zr zr Mem.ev_a Mem.ev_a (by omega) Tryz.underlying23 (by kernel_rfl) ?_
       (simp only [Act.put, Mem.pa, Mem.pb, Mem.pc])
       refine plan_field 38 _ 0 b1 (o1 + j * 2) ⟨b1, o1 + j * 2, none⟩ zr zr zr Mem.ev_a (fun wx => by go_simp) ?_
       (simp only [Act.put, Mem.pa, Mem.pb, Mem.pc])
       refine plan_cell 3 _ _ (.int .i64 z) _ zr zr zr Mem.ev_a (fun w' hw' => (hw'.cell (p := ⟨b1, o1 + j * 2, none⟩) LB1.out).trans CZ.out) Tryz.underlying3 zr ?_
       (simp only [Act.put, Mem.pa, Mem.pb, Mem.pc])
       refine plan_field 31 _ 0 w.heap.size 0 ⟨w.heap.size, 0, none⟩ zr zr zr Mem.ev_a (fun wx => by go_simp) ?_
       (simp only [Act.put, Mem.pa, Mem.pb, Mem.pc])
       refine plan_cell 3 _ _ (.int .i64 ((p : Int))) _ zr zr zr Mem.ev_a (fun w' hw' => (hw'.cell (p := ⟨w.heap.size, 0, none⟩) AW.out.lt).trans CM.out) Tryz.underlying3 zr ?_
       (simp only [Act.put, Mem.pa, Mem.pb, Mem.pc])
       refine plan_bin _ _ _ _ _ _ _ (.bool false) zr zr zr Mem.ev_a Mem.ev_a (fun wx => o_ige1 z (p : Int) false GE.out _ _ _ _ wx) ?_
       (simp only [Act.put, Mem.pa, Mem.pb, Mem.pc])
       refine plan_pick_f _ _ _ _ zr zr zr Mem.ev_a Mem.ev_a ?_
       (simp only [Act.put, Mem.pa, Mem.pb, Mem.pc])
       (first | refine Mem.pm1 ?_ | refine Mem.pm2 ?_ | refine Mem.pt ?_ | refine Mem.pf ?_)
       (simp only [Act.put, Mem.pa, Mem.pb, Mem.pc])
       (first | refine Mem.pm1 ?_ | refine Mem.pm2 ?_ | refine Mem.pt ?_ | refine Mem.pf ?_)
       (simp only [Act.put, Mem.pa, Mem.pb, Mem.pc])
       refine plan_bin _ _ _ _ _ _ _ (.bool false) zr zr zr Mem.ev_a zr (fun wx => o_igt1 (j : Int) 0 false GJ.out _ _ _ _ wx) ?_
       (simp only [Act.put, Mem.pa, Mem.pb, Mem.pc])
       (first | refine Mem.pm1 ?_ | refine Mem.pm2 ?_ | refine Mem.pt ?_ | refine Mem.pf ?_)
       (simp only [Act.put, Mem.pa, Mem.pb, Mem.pc])
       refine plan_skip zr zr ?_
       (simp only [Act.put, Mem.pa, Mem.pb, Mem.pc])
       refine plan_skip zr zr ?_
       (simp only [Act.put, Mem.pa, Mem.pb, Mem.pc])
       refine plan_skip zr zr ?_
       (simp only [Act.put, Mem.pa, Mem.pb, Mem.pc])
       refine plan_skip zr zr ?_
       (simp only [Act.put, Mem.pa, Mem.pb, Mem.pc])
       refine plan_skip zr zr ?_
       (simp only [Act.put, Mem.pa, Mem.pb, Mem.pc])
       refine plan_skip zr zr ?_
       (simp only [Act.put, Mem.pa, Mem.pb, Mem.pc])
       refine plan_skip zr zr ?_
       (simp only [Act.put, Mem.pa, Mem.pb, Mem.pc])
       refine plan_skip zr zr ?_
       (simp only [Act.put, Mem.pa, Mem.pb, Mem.pc])
       refine plan_skip zr zr ?_
       (simp only [Act.put, Mem.pa, Mem.pb, Mem.pc])
       refine plan_skip zr zr ?_
       (simp only [Act.put, Mem.pa, Mem.pb, Mem.pc])
       refine plan_skip zr zr ?_
       (simp only [Act.put, Mem.pa, Mem.pb, Mem.pc])
       refine plan_skip zr zr ?_
       (simp only [Act.put, Mem.pa, Mem.pb, Mem.pc])
       refine plan_pick_f _ _ _ _ zr zr zr Mem.ev_a Mem.ev_a ?_
       (simp only [Act.put, Mem.pa, Mem.pb, Mem.pc])
       refine plan_pick_f _ _ _ _ zr zr zr Mem.ev_a Mem.ev_a ?_
       (simp only [Act.put, Mem.pa, Mem.pb, Mem.pc])
       (first | refine Mem.pm1 ?_ | refine Mem.pm2 ?_ | refine Mem.pt ?_ | refine Mem.pf ?_)
       (simp only [Act.put, Mem.pa, Mem.pb, Mem.pc])
       (first | refine Mem.pm1 ?_ | refine Mem.pm2 ?_ | refine Mem.pt ?_ | refine Mem.pf ?_)
       (simp only [Act.put, Mem.pa, Mem.pb, Mem.pc])
       (first | refine Mem.pm1 ?_ | refine Mem.pm2 ?_ | refine Mem.pt ?_ | refine Mem.pf ?_)
       (simp only [Act.put, Mem.pa, Mem.pb, Mem.pc])
       refine plan_index_z 23 38 _ _ b1 o1 nC cc 2 j zr zr zr Mem.ev_a Mem.ev_a (by omega) Tryz.underlying23 (by kernel_rfl) ?_
       (simp only [Act.put, Mem.pa, Mem.pb, Mem.pc])
       refine plan_field 38 _ 1 b1 (o1 + j * 2) ⟨b1, o1 + j * 2 + 1, none⟩ zr zr zr Mem.ev_a (fun wx => by go_simp) ?_
       (simp only [Act.put, Mem.pa, Mem.pb, Mem.pc])
       refine plan_cell 36 _ _ (.slice a3 m c3) _ zr zr zr Mem.ev_a (fun w' hw' => (hw'.cell (p := ⟨b1, o1 + j * 2 + 1, none⟩) LB1.out).trans CU.out) Tryz.underlying36 zr ?_
       (simp only [Act.put, Mem.pa, Mem.pb, Mem.pc])
       refine plan_len _ _ _ _ m _ zr zr zr zr Mem.ev_a (fun wx => by go_simp) ?_
       (simp only [Act.put, Mem.pa, Mem.pb, Mem.pc])
       refine plan_bin _ _ _ _ _ _ _ (.bool false) zr zr zr Mem.ev_a zr (fun wx => o_ineq (m : Int) 256 N4.out _ _ _ _ wx) ?_
       (simp only [Act.put, Mem.pa, Mem.pb, Mem.pc])
       refine plan_pick_f _ _ _ _ zr zr zr Mem.ev_a Mem.ev_a ?_
       (simp only [Act.put, Mem.pa, Mem.pb, Mem.pc])
       refine plan_nil ?_
       go_wp2_with fail
       go_roundw
       case rel => exact ⟨j + 1, by omega, by go_num, NX.out, BW.out.drew, AW.out⟩
       case measure => simp [intOf]; omega
      ·have HY := zh (NO0.out (RNJ.out fun h => by have := (OKJ.out.1 h).2.1; omega))
       have N4 := zh g4
       clear g1 g2 g4 gj
       go_upto_region 4 with fail
       refine wp_region_plan_in (fun x' => Below wr.heap.size wr x') (.take 0 (.take 1 (.take 2 (.take 3 (.take 4 (.take 5 (.take 6 (.take 7 (.take 8 (.take 9 (.take 10 (.take 11 (.take 12 (.take 13 (.take 14 (.take 15 (.take 16 (.take 17 (.take 18 (.take 19 (.take 20 (.take 21 (.take 22 (.take 23 (.take 24 (.take 25 (.take 26 (.take 27 (.take 28 (.take 29 (.take 30 (.take 31 (.take 32 (.take 33 (.take 34 (.take 35 (.take 36 (.take 37 (.take 38 (.take 39 (.take 40 (.take 41 (.take 42 .done))))))))))))))))))))))))))))))))))))))))))) (by kernel_rfl) (by kernel_rfl) (by kernel_rfl) (Below.refl _ _).drew ?_
       (first | refine Mem.pm1 ?_ | refine Mem.pm2 ?_ | refine Mem.pt ?_ | refine Mem.pf ?_)
       (simp only [Act.put, Mem.pa, Mem.pb, Mem.pc])
       (first | refine Mem.pm1 ?_ | refine Mem.pm2 ?_ | refine Mem.pt ?_ | refine Mem.pf ?_)
       (simp only [Act.put, Mem.pa, Mem.pb, Mem.pc])
       refine plan_index_z 23 38 _ _ b1 o1 nC cc 2 j zr zr zr Mem.ev_a Mem.ev_a (by omega) Tryz.underlying23 (by kernel_rfl) ?_
       (simp only [Act.put, Mem.pa, Mem.pb, Mem.pc])
       refine plan_field 38 _ 0 b1 (o1 + j * 2) ⟨b1, o1 + j * 2, none⟩ zr zr zr Mem.ev_a (fun wx => by go_simp) ?_
       (simp only [Act.put, Mem.pa, Mem.pb, Mem.pc])
       refine plan_cell 3 _ _ (.int .i64 z) _ zr zr zr Mem.ev_a (fun w' hw' => (hw'.cell (p := ⟨b1, o1 + j * 2, none⟩) LB1.out).trans CZ.out) Tryz.underlying3 zr ?_
       (simp only [Act.put, Mem.pa, Mem.pb, Mem.pc])
       refine plan_bin _ _ _ _ _ _ _ (.bool false) zr zr zr Mem.ev_a zr (fun wx => o_ilt1 z 0 false LT.out _ _ _ _ wx) ?_
       (simp only [Act.put, Mem.pa, Mem.pb, Mem.pc])
       (first | refine Mem.pm1 ?_ | refine Mem.pm2 ?_ | refine Mem.pt ?_ | refine Mem.pf ?_)
       (simp only [Act.put, Mem.pa, Mem.pb, Mem.pc])
       (first | refine Mem.pm1 ?_ | refine Mem.pm2 ?_ | refine Mem.pt ?_ | refine Mem.pf ?_)
       (simp only [Act.put, Mem.pa, Mem.pb, Mem.pc])
       (first | refine Mem.pm1 ?_ | refine Mem.pm2 ?_ | refine Mem.pt ?_ | refine Mem.pf ?_)
       (simp only [Act.put, Mem.pa, Mem.pb, Mem.pc])
       refine plan_index_z 23 38 _ _ b1 o1 nC cc 2 j zr zr zr Mem.ev_a Mem.ev_a (by omega) Tryz.underlying23 (by kernel_rfl) ?_
       (simp only [Act.put, Mem.pa, Mem.pb, Mem.pc])
       refine plan_field 38 _ 0 b1 (o1 + j * 2) ⟨b1, o1 + j * 2, none⟩ zr zr zr Mem.ev_a (fun wx => by go_simp) ?_
       (simp only [Act.put, Mem.pa, Mem.pb, Mem.pc])
       refine plan_cell 3 _ _ (.int .i64 z) _ zr zr zr Mem.ev_a (fun w' hw' => (hw'.cell (p := ⟨b1, o1 + j * 2, none⟩) LB1.out).trans CZ.out) Tryz.underlying3 zr ?_
       (simp only [Act.put, Mem.pa, Mem.pb, Mem.pc])
       refine plan_field 31 _ 0 w.heap.size 0 ⟨w.heap.size, 0, none⟩ zr zr zr Mem.ev_a (fun wx => by go_simp) ?_
       (simp only [Act.put, Mem.pa, Mem.pb, Mem.pc])
       refine plan_cell 3 _ _ (.int .i64 ((p : Int))) _ zr zr zr Mem.ev_a (fun w' hw' => (hw'.cell (p := ⟨w.heap.size, 0, none⟩) AW.out.lt).trans CM.out) Tryz.underlying3 zr ?_
       (simp only [Act.put, Mem.pa, Mem.pb, Mem.pc])
       refine plan_bin _ _ _ _ _ _ _ (.bool false) zr zr zr Mem.ev_a Mem.ev_a (fun wx => o_ige1 z (p : Int) false GE.out _ _ _ _ wx) ?_
       (simp only [Act.put, Mem.pa, Mem.pb, Mem.pc])
       refine plan_pick_f _ _ _ _ zr zr zr Mem.ev_a Mem.ev_a ?_
       (simp only [Act.put, Mem.pa, Mem.pb, Mem.pc])
       (first | refine Mem.pm1 ?_ | refine Mem.pm2 ?_ | refine Mem.pt ?_ | refine Mem.pf ?_)
       (simp only [Act.put, Mem.pa, Mem.pb, Mem.pc])
       (first | refine Mem.pm1 ?_ | refine Mem.pm2 ?_ | refine Mem.pt ?_ | refine Mem.pf ?_)
       (simp only [Act.put, Mem.pa, Mem.pb, Mem.pc])
       refine plan_bin _ _ _ _ _ _ _ (.bool false) zr zr zr Mem.ev_a zr (fun wx => o_igt1 (j : Int) 0 false GJ.out _ _ _ _ wx) ?_
       (simp only [Act.put, Mem.pa, Mem.pb, Mem.pc])
       (first | refine Mem.pm1 ?_ | refine Mem.pm2 ?_ | refine Mem.pt ?_ | refine Mem.pf ?_)
       (simp only [Act.put, Mem.pa, Mem.pb, Mem.pc])
       refine plan_skip zr zr ?_
       (simp only [Act.put, Mem.pa, Mem.pb, Mem.pc])
       refine plan_skip zr zr ?_
       (simp only [Act.put, Mem.pa, Mem.pb, Mem.pc])
       refine plan_skip zr zr ?_
       (simp only [Act.put, Mem.pa, Mem.pb, Mem.pc])
       refine plan_skip zr zr ?_
       (simp only [Act.put, Mem.pa, Mem.pb, Mem.pc])
       refine plan_skip zr zr ?_
       (simp only [Act.put, Mem.pa, Mem.pb, Mem.pc])
       refine plan_skip zr zr ?_
       (simp only [Act.put, Mem.pa, Mem.pb, Mem.pc])
       refine plan_skip zr zr ?_
       (simp only [Act.put, Mem.pa, Mem.pb, Mem.pc])
       refine plan_skip zr zr ?_
       (simp only [Act.put, Mem.pa, Mem.pb, Mem.pc])
       refine plan_skip zr zr ?_
       (simp only [Act.put, Mem.pa, Mem.pb, Mem.pc])
       refine plan_skip zr zr ?_
       (simp only [Act.put, Mem.pa, Mem.pb, Mem.pc])
       refine plan_skip zr zr ?_
       (simp only [Act.put, Mem.pa, Mem.pb, Mem.pc])
       refine plan_skip zr zr ?_
       (simp only [Act.put, Mem.pa, Mem.pb, Mem.pc])
       refine plan_pick_f _ _ _ _ zr zr zr Mem.ev_a Mem.ev_a ?_
       (simp only [Act.put, Mem.pa, Mem.pb, Mem.pc])
       refine plan_pick_f _ _ _ _ zr zr zr Mem.ev_a Mem.ev_a ?_
       (simp only [Act.put, Mem.pa, Mem.pb, Mem.pc])
       (first | refine Mem.pm1 ?_ | refine Mem.pm2 ?_ | refine Mem.pt ?_ | refine Mem.pf ?_)
       (simp only [Act.put, Mem.pa, Mem.pb, Mem.pc])
       (first | refine Mem.pm1 ?_ | refine Mem.pm2 ?_ | refine Mem.pt ?_ | refine Mem.pf ?_)
       (simp only [Act.put, Mem.pa, Mem.pb, Mem.pc])
       (first | refine Mem.pm1 ?_ | refine Mem.pm2 ?_ | refine Mem.pt ?_ | refine Mem.pf ?_)
       (simp only [Act.put, Mem.pa, Mem.pb, Mem.pc])
       refine plan_index_z 23 38 _ _ b1 o1 nC cc 2 j zr zr zr Mem.ev_a Mem.ev_a (by omega) Tryz.underlying23 (by kernel_rfl) ?_
       (simp only [Act.put, Mem.pa, Mem.pb, Mem.pc])
       refine plan_field 38 _ 1 b1 (o1 + j * 2) ⟨b1, o1 + j * 2 + 1, none⟩ zr zr zr Mem.ev_a (fun wx => by go_simp) ?_
       (simp only [Act.put, Mem.pa, Mem.pb, Mem.pc])
       refine plan_cell 36 _ _ (.slice a3 m c3) _ zr zr zr Mem.ev_a (fun w' hw' => (hw'.cell (p := ⟨b1, o1 + j * 2 + 1, none⟩) LB1.out).trans CU.out) Tryz.underlying36 zr ?_
       (simp only [Act.put, Mem.pa, Mem.pb, Mem.pc])
       refine plan_len _ _ _ _ m _ zr zr zr zr Mem.ev_a (fun wx => by go_simp) ?_
       (simp only [Act.put, Mem.pa, Mem.pb, Mem.pc])
       refine plan_bin _ _ _ _ _ _ _ (.bool true) zr zr zr Mem.ev_a zr (fun wx => o_inet1 (m : Int) 256 N4.out _ _ _ _ wx) ?_
       (simp only [Act.put, Mem.pa, Mem.pb, Mem.pc])
       refine plan_pick_f _ _ _ _ zr zr zr Mem.ev_a Mem.ev_a ?_
       (simp only [Act.put, Mem.pa, Mem.pb, Mem.pc])
       refine plan_nil ?_
       go_wp2_with fail
       go_ret
       exact ⟨by rw [HY.out]; rfl, BW.out.drew⟩
  ·have hjn : j = nC := by omega
   subst hjn
   have HR := zh (RYES.out AL.out)
   have hge : ¬ (j : Int) < (j : Int) := by omega
   clear AL
   go_upto_region 6 with fail
   refine wp_region_plan_in (fun x' => Below wr.heap.size wr x') (.take 0 (.take 1 (.sole 2 (.sole 3 (.take 4 .done))))) (by kernel_rfl) (by kernel_rfl) (by kernel_rfl) (Below.refl _ _).drew ?_
   refine plan_row 31 _ w.heap.size _ M 31 zr zr zr Mem.ev_a (fun w' hw' => AW.out.below hw' AW.out.lt) Tryz.underlying31 zr (by rw [MS.out]; exact infoRS) ?_
   (simp only [Act.put, Mem.pa, Mem.pb, Mem.pc])
   (first | refine Mem.pm1 ?_ | refine Mem.pm2 ?_ | refine Mem.pt ?_ | refine Mem.pf ?_)
   (simp only [Act.put, Mem.pa, Mem.pb, Mem.pc])
   refine plan_call 42 _ _ _ (by kernel_rfl) zr zr zr (by first | exact Mem.ev_none _ | (simp only [List.map_toArray, List.map_cons, List.map_nil, Mem.ev_tmp, List.getD_cons_succ, List.getD_cons_zero] <;> rfl)) ?_
   refine (PGS.out _ (HVC.out.below BW.out.drew)).mono ?_
   rintro e8 wy ⟨v8, rfl, ho8, hb8⟩
   have D1 : Hid (Below wr.heap.size wr wy) := zh ((Below.refl _ _).drew.trans hb8)
   have S8 := zh (ownV_sli ho8)
   clear ho8 hb8
   refine ⟨_, rfl, D1.out, ?_⟩
   (simp only [Act.put, Mem.pa, Mem.pb, Mem.pc])
   refine plan_call 11 _ _ _ (by kernel_rfl) zr zr zr (by first | exact Mem.ev_none _ | (simp only [List.map_toArray, List.map_cons, List.map_nil, Mem.ev_tmp, List.getD_cons_succ, List.getD_cons_zero] <;> rfl)) ?_
   refine (NDD.out v8 wy (HRS.out.below (BW.out.trans (D1.out.mono BW.out.size))) S8.out).mono ?_
   rintro e9 wz ⟨v9, rfl, ho9, hb9⟩
   have D2 : Hid (Below wr.heap.size wr wz) := zh (D1.out.trans (hb9.mono D1.out.size))
   have S3 := zh (ownV_sli ho9)
   clear ho9 hb9
   refine ⟨_, rfl, D2.out, ?_⟩
   (simp only [Act.put, Mem.pa, Mem.pb, Mem.pc])
   (first | refine Mem.pm1 ?_ | refine Mem.pm2 ?_ | refine Mem.pt ?_ | refine Mem.pf ?_)
   (simp only [Act.put, Mem.pa, Mem.pb, Mem.pc])
   refine plan_nil ?_
   have A3 := zh (AW.out.below D2.out AW.out.lt); have B3 := zh (BW.out.trans (D2.out.mono BW.out.size))
   obtain ⟨a3, c3, e3⟩ := S3.out.hd
   subst e3
   rw [← HNN.out] at S3 ⊢
   clear D2 AW BW
   go_wp2_with fail
   go_loopw [9] (fun vi wr => ∃ j : Nat, j ≤ n ∧ vi = .int .i64 (j : Int) ∧ (∀ j', j' < j → ∀ i : Nat, KS.getD j' 0 = (i : Int) → nodeOk p N i = true) ∧ Below w.heap.size w wr ∧ At wr w.heap.size M 31 ∧ SlI wr (.slice a3 n c3) KS) (fun vi _ => n - (intOf vi).toNat)
   case atStart => exact ⟨0, by omega, rfl, fun j' h => by omega, B3.out, A3.out, S3.out⟩
   case round =>
    obtain ⟨j, hj, rfl, hal, hbw, haw, hs⟩ := hrel
    have BW := zh hbw; have AW := zh haw; have AL := zh hal; have SW := zh hs
    clear hal hbw haw hs
    by_cases hlt : j < n
    ·have hlt' : (j : Int) < (n : Int) := by omega
     obtain ⟨i, hi, _, hit, _, hpi⟩ := GT.out j hlt
     obtain ⟨b1, o1, e1, hlb, cx0⟩ := sli_at (i := j) SW.out HNN.out hlt
     subst e1
     rw [hi] at cx0
     have fdi := fun wx h => FD.out (i : Int) wx h
     have kdi := fun wx h => KD.out (i : Int) wx h
     have hln := KZN.out i hpi hit
     have hm1 := MP.out i hpi hit
     have hoki := OK.out i
     have hfn := FN.out (i : Int)
     have hnoi := fun h => NO.out j i hlt hi h
     have hali : nodeOk p N i = true → ∀ j', j' < j + 1 → ∀ i : Nat, KS.getD j' 0 = (i : Int) → nodeOk p N i = true := fun h j' hj' i' hi' => by
      rcases Nat.lt_or_ge j' j with g | g
      ·exact AL.out j' g i' hi'
      ·have : j' = j := by omega
       subst this
       have : i' = i := by omega
       rw [this]; exact h
     have hwl := FW.out (i : Int)
     have h6 := M6.out i
     obtain ⟨RL, hRL⟩ : ∃ R, R = findD N (i : Int) := ⟨_, rfl⟩
     obtain ⟨q0, hq0⟩ : ∃ q, q = (findT N (i : Int)).isSome := ⟨_, rfl⟩
     rw [← hRL, ← hq0] at fdi hfn
     rw [← hRL] at hoki hwl
     have hal1 := fun h => all_plOk RL h
     have hal2 := fun k hk h => not_plOk RL k hk h
     obtain ⟨KK, hKK⟩ : ∃ K, K = KZ p (i : Int) := ⟨_, rfl⟩
     rw [← hKK] at kdi hln
     obtain ⟨m, hm⟩ : ∃ m, m = many p i := ⟨_, rfl⟩
     rw [← hm] at hln hoki h6 hm1
     obtain ⟨l, hl⟩ : ∃ l, l = RL.length := ⟨_, rfl⟩
     rw [← hl] at hoki hal1 hal2
     obtain ⟨q, hq⟩ : ∃ q, q = RL.all plOk := ⟨_, rfl⟩
     rw [← hq] at hoki hal1 hal2
     obtain ⟨NK, hNK⟩ : ∃ K, K = nodeOk p N i := ⟨_, rfl⟩
     rw [← hNK] at hoki hnoi hali
     have FDI := zh fdi; have KDI := zh kdi; have HLN := zh hln; have OKI := zh hoki; have NOI := zh hnoi; have ALI := zh hali; have HL := zh hl; have WLL := zh hwl; have FNI := zh hfn; have HM1 := zh hm1; have AL1 := zh hal1; have AL2 := zh hal2; have LB1 := zh hlb
     clear fdi kdi hln hoki hnoi hali hRL hq0 hKK hm hl hq hNK hlb hwl hpi hit hfn hm1 hal1 hal2
     obtain ⟨z, hz⟩ : ∃ z : Int, z = (i : Int) := ⟨_, rfl⟩
     rw [← hz] at cx0 FDI KDI
     have CX0 := zh cx0
     clear hz hi
     go_wp2_with fail
     refine (FDI.out _ (HVN.out.below BW.out)).mono ?_
     rintro e w4 ⟨v4, rfl, ho4, hb4⟩
     have R4 := zh ho4; have B4 := zh (BW.out.trans (hb4.mono BW.out.size)); have A4 := zh (AW.out.below hb4 AW.out.lt); have S4 := zh (SW.out.below hb4)
     have C4 : Hid (w4.cell? ⟨b1, o1 + j, none⟩ = some (.int .i64 z)) := zh ((hb4.cell (p := ⟨b1, o1 + j, none⟩) LB1.out).trans CX0.out)
     have LB4 : Hid (b1 < w4.heap.size) := zh (Nat.lt_of_lt_of_le LB1.out hb4.size)
     have RS4 := zh (HRS.out.below B4.out)
     clear ho4 hb4 cx0 CX0 LB1
     obtain ⟨a4, c4, e4⟩ := R4.out.hdn HL.out.symm
     subst e4
     go_upto_region 11 with fail
     cases q0 with
     | false =>
      have HY := zh (NOI.out (by rw [OKI.out, decide_eq_false (by have := FNI.out rfl; have h2 := HL.out; rw [this] at h2; have := HM1.out; simp at h2; omega)]; simp))
      refine wp_region_plan_in (fun x' => Below w4.heap.size w4 x') (.take 0 (.take 1 (.take 2 (.take 3 (.take 4 (.take 5 (.take 6 (.take 7 (.take 8 (.take 9 (.sole 10 (.take 11 (.take 12 (.take 13 .done)))))))))))))) (by kernel_rfl) (by kernel_rfl) (by kernel_rfl) (Below.refl _ _).drew ?_
      (first | refine Mem.pm1 ?_ | refine Mem.pm2 ?_ | refine Mem.pt ?_ | refine Mem.pf ?_)
      (simp only [Act.put, Mem.pa, Mem.pb, Mem.pc])
      refine plan_not _ _ false zr zr zr Mem.ev_a ?_
      rw [show (!false) = true from rfl]
      (simp only [Act.put, Mem.pa, Mem.pb, Mem.pc])
      (first | refine Mem.pm1 ?_ | refine Mem.pm2 ?_ | refine Mem.pt ?_ | refine Mem.pf ?_)
      (simp only [Act.put, Mem.pa, Mem.pb, Mem.pc])
      refine plan_skip zr zr ?_
      (simp only [Act.put, Mem.pa, Mem.pb, Mem.pc])
      refine plan_skip zr zr ?_
      (simp only [Act.put, Mem.pa, Mem.pb, Mem.pc])
      refine plan_skip zr zr ?_
      (simp only [Act.put, Mem.pa, Mem.pb, Mem.pc])
      refine plan_skip zr zr ?_
      (simp only [Act.put, Mem.pa, Mem.pb, Mem.pc])
      refine plan_skip zr zr ?_
      (simp only [Act.put, Mem.pa, Mem.pb, Mem.pc])
      refine plan_skip zr zr ?_
      (simp only [Act.put, Mem.pa, Mem.pb, Mem.pc])
      refine plan_skip zr zr ?_
      (simp only [Act.put, Mem.pa, Mem.pb, Mem.pc])
      refine plan_sole_skip zr zr (Below.refl _ _).drew ?_
      (simp only [Act.put, Mem.pa, Mem.pb, Mem.pc])
      refine plan_skip zr zr ?_
      (simp only [Act.put, Mem.pa, Mem.pb, Mem.pc])
      refine plan_skip zr zr ?_
      (simp only [Act.put, Mem.pa, Mem.pb, Mem.pc])
      refine plan_pick_t _ _ _ _ zr zr zr Mem.ev_a Mem.ev_a ?_
      (simp only [Act.put, Mem.pa, Mem.pb, Mem.pc])
      refine plan_nil ?_
      go_wp2_with fail
      go_ret
      exact ⟨by rw [HY.out]; rfl, B4.out.drew⟩
     | true =>
      by_cases hlm : l = m
      ·have N4 : Hid ((l : Int) = (m : Int)) := zh (by rw [hlm])
       refine wp_region_plan_in (fun x' => Below w4.heap.size w4 x') (.take 0 (.take 1 (.take 2 (.take 3 (.take 4 (.take 5 (.take 6 (.take 7 (.take 8 (.take 9 (.sole 10 (.take 11 (.take 12 (.take 13 .done)))))))))))))) (by kernel_rfl) (by kernel_rfl) (by kernel_rfl) (Below.refl _ _).drew ?_
       (first | refine Mem.pm1 ?_ | refine Mem.pm2 ?_ | refine Mem.pt ?_ | refine Mem.pf ?_)
       (simp only [Act.put, Mem.pa, Mem.pb, Mem.pc])
       refine plan_not _ _ true zr zr zr Mem.ev_a ?_
       rw [show (!true) = false from rfl]
       (simp only [Act.put, Mem.pa, Mem.pb, Mem.pc])
       (first | refine Mem.pm1 ?_ | refine Mem.pm2 ?_ | refine Mem.pt ?_ | refine Mem.pf ?_)
       (simp only [Act.put, Mem.pa, Mem.pb, Mem.pc])
       (first | refine Mem.pm1 ?_ | refine Mem.pm2 ?_ | refine Mem.pt ?_ | refine Mem.pf ?_)
       (simp only [Act.put, Mem.pa, Mem.pb, Mem.pc])
       refine plan_len _ _ _ _ l _ zr zr zr zr Mem.ev_a (fun wx => by go_simp) ?_
       (simp only [Act.put, Mem.pa, Mem.pb, Mem.pc])
       refine plan_row 31 _ w.heap.size _ M 31 zr zr zr Mem.ev_a (fun w' hw' => A4.out.below hw' A4.out.lt) Tryz.underlying31 zr (by rw [MS.out]; exact infoRS) ?_
       (simp only [Act.put, Mem.pa, Mem.pb, Mem.pc])
       (first | refine Mem.pm1 ?_ | refine Mem.pm2 ?_ | refine Mem.pt ?_ | refine Mem.pf ?_)
       (simp only [Act.put, Mem.pa, Mem.pb, Mem.pc])
       (first | refine Mem.pm1 ?_ | refine Mem.pm2 ?_ | refine Mem.pt ?_ | refine Mem.pf ?_)
       (simp only [Act.put, Mem.pa, Mem.pb, Mem.pc])
       refine plan_index 29 3 _ _ b1 o1 n c3 j zr zr zr Mem.ev_a Mem.ev_a (by omega) Tryz.underlying29 (by kernel_rfl) ?_
       (simp only [Act.put, Mem.pa, Mem.pb, Mem.pc])
       refine plan_cell 3 _ _ (.int .i64 z) _ zr zr zr Mem.ev_a (fun w' hw' => (hw'.cell (p := ⟨b1, o1 + j, none⟩) LB4.out).trans C4.out) Tryz.underlying3 zr ?_
       (simp only [Act.put, Mem.pa, Mem.pb, Mem.pc])
       refine plan_call 43 _ _ _ (by kernel_rfl) zr zr zr (by first | exact Mem.ev_none _ | (simp only [List.map_toArray, List.map_cons, List.map_nil, Mem.ev_tmp, List.getD_cons_succ, List.getD_cons_zero] <;> rfl)) ?_
       refine (KDI.out _ (RS4.out.below (Below.refl _ _).drew)).mono ?_
       rintro e8 wy ⟨v8, rfl, ho8, hb8⟩
       obtain ⟨a5, c5, e5⟩ := ho8.hd
       subst e5
       rw [HLN.out]
       have D1 : Hid (Below w4.heap.size w4 wy) := zh ((Below.refl _ _).drew.trans hb8)
       clear ho8 hb8
       refine ⟨_, rfl, D1.out, ?_⟩
       (simp only [Act.put, Mem.pa, Mem.pb, Mem.pc])
       refine plan_len _ _ _ _ m _ zr zr zr zr Mem.ev_a (fun wx => by go_simp) ?_
       (simp only [Act.put, Mem.pa, Mem.pb, Mem.pc])
       refine plan_bin _ _ _ _ _ _ _ (.bool false) zr zr zr Mem.ev_a Mem.ev_a (fun wx => o_ineq (l : Int) (m : Int) N4.out _ _ _ _ wx) ?_
       (simp only [Act.put, Mem.pa, Mem.pb, Mem.pc])
       refine plan_pick_f _ _ _ _ zr zr zr Mem.ev_a Mem.ev_a ?_
       (simp only [Act.put, Mem.pa, Mem.pb, Mem.pc])
       refine plan_nil ?_
       have A5 := zh (A4.out.below D1.out A4.out.lt); have B5 := zh (B4.out.trans (D1.out.mono B4.out.size)); have S5 := zh (S4.out.below D1.out); have R5 := zh (R4.out.below D1.out)
       have OK2 : Hid (NK = q) := zh (by rw [OKI.out, decide_eq_true hlm, Bool.true_and])
       have hl6 : l ≤ 6 := by omega
       clear hlm N4 A4 B4 S4 R4 C4 LB4 RS4 D1
       go_wp2_with fail
       go_loopw [12] (fun vi wr => ∃ k : Nat, k ≤ l ∧ vi = .int .i64 (k : Int) ∧ (∀ k', k' < k → plOk (RL.getD k' zref) = true) ∧ Below w.heap.size w wr ∧ At wr w.heap.size M 31 ∧ SlI wr (.slice (some ⟨b1, o1, none⟩) n c3) KS ∧ SlRf wr (.slice a4 l c4) RL) (fun vi _ => l - (intOf vi).toNat)
       case atStart => exact ⟨0, by omega, rfl, fun j' h => by omega, B5.out, A5.out, S5.out, R5.out⟩
       case round =>
        obtain ⟨k, hk, rfl, hal, hbw, haw, hs, hr⟩ := hrel
        have BW := zh hbw; have AW := zh haw; have AK := zh hal; have SW := zh hs; have RW := zh hr
        clear hal hbw haw hs hr
        by_cases hkl : k < l
        ·have hkl' : (k : Int) < (l : Int) := by omega
         obtain ⟨b2, o2, e2, hlb2, hrg⟩ := slrf_at (i := k) RW.out HL.out hkl
         subst e2
         have hwi := getD_wf WLL.out k
         have hnx : plOk (RL.getD k zref) = true → ∀ k', k' < k + 1 → plOk (RL.getD k' zref) = true := fun h k' hk' => (Nat.lt_or_ge k' k).elim (AK.out k') (fun g => by rw [show k' = k by omega]; exact h)
         have hbd := fun h => AL2.out k hkl h
         obtain ⟨r, hr⟩ : ∃ r, r = RL.getD k zref := ⟨_, rfl⟩
         rw [← hr] at hrg hwi hnx hbd
         have rri := fun wx => RR.out r wx hwi
         have ms2 : (refC r).size = 34 := refC_size hwi
         obtain ⟨b, hbv⟩ : ∃ b, b = plOk r := ⟨_, rfl⟩
         rw [← hbv] at hnx hbd rri
         have hrgm : wr.rangeAt b2 (o2 + k * 34) (refC r).toList := hrg
         obtain ⟨RM, hRM⟩ : ∃ M, M = refC r := ⟨_, rfl⟩
         rw [← hRM] at hrgm rri ms2
         have RGM := zh hrgm; have RRI := zh rri; have MS2 := zh ms2; have NXK := zh hnx; have BDK := zh hbd
         clear hrg hwi hnx hbd hr rri ms2 hbv hrgm hRM hlb2
         go_wp2_with (refine wpList_load_mid zr 64 _ zr b2 (o2 + k * 34) zr RM.toList _ RGM.out Tryz.underlying64 zr (by rw [infoRfR, Array.length_toList, MS2.out]) ?_; rw [Array.toArray_toList])
         refine (RRI.out _).mono ?_
         rintro e w6 ⟨rfl, hb6⟩
         have B6 := zh (BW.out.trans (hb6.mono BW.out.size)); have A6 := zh (AW.out.below hb6 AW.out.lt); have S6 := zh (SW.out.below hb6); have R6 := zh (RW.out.below hb6)
         clear hb6
         cases hbv : b with
         | true =>
          have NX := zh (NXK.out hbv)
          go_wp2_with fail
          go_roundw
          case rel => exact ⟨k + 1, by omega, by go_num, NX.out, B6.out, A6.out, S6.out, R6.out⟩
          case measure => simp [intOf]; omega
         | false =>
          have HY := zh (NOI.out (by rw [OK2.out]; exact BDK.out hbv))
          go_wp2_with fail
          go_ret
          exact ⟨by rw [HY.out]; rfl, B6.out⟩
        ·have hkl2 : k = l := by omega
         subst hkl2
         have hge : ¬ (k : Int) < (k : Int) := by omega
         have AL6 := zh (ALI.out (by rw [OK2.out]; exact AL1.out AK.out))
         go_wp2_with fail
         go_roundw
         case rel => exact ⟨j + 1, by omega, by go_num, AL6.out, BW.out, AW.out, SW.out⟩
         case measure => simp [intOf]; omega
      ·have HY := zh (NOI.out (by rw [OKI.out, decide_eq_false hlm]; simp))
       have N4 : Hid (¬ (l : Int) = (m : Int)) := zh (by omega)
       refine wp_region_plan_in (fun x' => Below w4.heap.size w4 x') (.take 0 (.take 1 (.take 2 (.take 3 (.take 4 (.take 5 (.take 6 (.take 7 (.take 8 (.take 9 (.sole 10 (.take 11 (.take 12 (.take 13 .done)))))))))))))) (by kernel_rfl) (by kernel_rfl) (by kernel_rfl) (Below.refl _ _).drew ?_
       (first | refine Mem.pm1 ?_ | refine Mem.pm2 ?_ | refine Mem.pt ?_ | refine Mem.pf ?_)
       (simp only [Act.put, Mem.pa, Mem.pb, Mem.pc])
       refine plan_not _ _ true zr zr zr Mem.ev_a ?_
       rw [show (!true) = false from rfl]
       (simp only [Act.put, Mem.pa, Mem.pb, Mem.pc])
       (first | refine Mem.pm1 ?_ | refine Mem.pm2 ?_ | refine Mem.pt ?_ | refine Mem.pf ?_)
       (simp only [Act.put, Mem.pa, Mem.pb, Mem.pc])
       (first | refine Mem.pm1 ?_ | refine Mem.pm2 ?_ | refine Mem.pt ?_ | refine Mem.pf ?_)
       (simp only [Act.put, Mem.pa, Mem.pb, Mem.pc])
       refine plan_len _ _ _ _ l _ zr zr zr zr Mem.ev_a (fun wx => by go_simp) ?_
       (simp only [Act.put, Mem.pa, Mem.pb, Mem.pc])
       refine plan_row 31 _ w.heap.size _ M 31 zr zr zr Mem.ev_a (fun w' hw' => A4.out.below hw' A4.out.lt) Tryz.underlying31 zr (by rw [MS.out]; exact infoRS) ?_
       (simp only [Act.put, Mem.pa, Mem.pb, Mem.pc])
       (first | refine Mem.pm1 ?_ | refine Mem.pm2 ?_ | refine Mem.pt ?_ | refine Mem.pf ?_)
       (simp only [Act.put, Mem.pa, Mem.pb, Mem.pc])
       (first | refine Mem.pm1 ?_ | refine Mem.pm2 ?_ | refine Mem.pt ?_ | refine Mem.pf ?_)
       (simp only [Act.put, Mem.pa, Mem.pb, Mem.pc])
       refine plan_index 29 3 _ _ b1 o1 n c3 j zr zr zr Mem.ev_a Mem.ev_a (by omega) Tryz.underlying29 (by kernel_rfl) ?_
       (simp only [Act.put, Mem.pa, Mem.pb, Mem.pc])
       refine plan_cell 3 _ _ (.int .i64 z) _ zr zr zr Mem.ev_a (fun w' hw' => (hw'.cell (p := ⟨b1, o1 + j, none⟩) LB4.out).trans C4.out) Tryz.underlying3 zr ?_
       (simp only [Act.put, Mem.pa, Mem.pb, Mem.pc])
       refine plan_call 43 _ _ _ (by kernel_rfl) zr zr zr (by first | exact Mem.ev_none _ | (simp only [List.map_toArray, List.map_cons, List.map_nil, Mem.ev_tmp, List.getD_cons_succ, List.getD_cons_zero] <;> rfl)) ?_
       refine (KDI.out _ (RS4.out.below (Below.refl _ _).drew)).mono ?_
       rintro e8 wy ⟨v8, rfl, ho8, hb8⟩
       obtain ⟨a5, c5, e5⟩ := ho8.hd
       subst e5
       rw [HLN.out]
       have D1 : Hid (Below w4.heap.size w4 wy) := zh ((Below.refl _ _).drew.trans hb8)
       clear ho8 hb8
       refine ⟨_, rfl, D1.out, ?_⟩
       (simp only [Act.put, Mem.pa, Mem.pb, Mem.pc])
       refine plan_len _ _ _ _ m _ zr zr zr zr Mem.ev_a (fun wx => by go_simp) ?_
       (simp only [Act.put, Mem.pa, Mem.pb, Mem.pc])
       refine plan_bin _ _ _ _ _ _ _ (.bool true) zr zr zr Mem.ev_a Mem.ev_a (fun wx => o_inet1 (l : Int) (m : Int) N4.out _ _ _ _ wx) ?_
       (simp only [Act.put, Mem.pa, Mem.pb, Mem.pc])
       refine plan_pick_f _ _ _ _ zr zr zr Mem.ev_a Mem.ev_a ?_
       (simp only [Act.put, Mem.pa, Mem.pb, Mem.pc])
       refine plan_nil ?_
       go_wp2_with fail
       go_ret
       exact ⟨by rw [HY.out]; rfl, B4.out.trans (D1.out.mono B4.out.size)⟩
    ·have hjn : j = n := by omega
     subst hjn
     have HY := zh (YES.out HR.out AL.out)
     have hge : ¬ (j : Int) < (j : Int) := by omega
     go_wp2_with fail
     go_ret
     exact ⟨by rw [HY.out]; rfl, BW.out⟩
end Sha
end Go.Proofs.YtahcjnganedbiaaGreatDoor
